/- CodecFrames: what both sides answer, side by side; what is there while frames are ranged over. -/
import Derived.Test.YtpnnbkhlbohfbaaDoorRfX
import Derived.Test.YtpnnbkhlbohfbaaDoorRfE
import Derived.Test.YtpnnbkhlbohfbaaDoorRfU
import Derived.Test.YtpnnbkhlbohfbaaDoorSame2
import Derived.Test.YtpnnbkhlbohfbaaDoorKnownC
namespace Go.Proofs.YtpnnbkhlbohfbaaDoor
open Go.RowKit Cod
set_option linter.unusedVariables false

theorem unframe_told (a : Option Addr) (len cap : Nat) (l : List (BitVec 8)) (w : World) (hT : Tabs w) (h : Seen w a len l) (hnil : a = none → cap = 0) (hk : len ≤ cap) (hm : len ≤ 140737488355328) :
    Calls Tryd.prog 5 #[.slice a len cap] w fun e w' => UnfTold w w' l e ∧ Below w.heap.size w w' := by
  by_cases hw : unWhy l = 0
  · refine (unframe_ok a len cap l w hT h hnil hk hm hw).mono ?_
    rintro e w' ⟨v, rfl, o, b⟩
    exact ⟨.inr ⟨hw, v, rfl, o⟩, b⟩
  · refine (unframe_no a len cap l w hT h hnil hk hm hw).mono ?_
    rintro e w' ⟨rfl, b⟩
    exact ⟨.inl ⟨hw, rfl⟩, b⟩
theorem cutBody_le (l : List (BitVec 8)) : (cutBody l).length ≤ l.length := by
  unfold cutBody
  rw [List.length_take, List.length_drop]
  omega
/-- Both sides' Unframe. -/
theorem unf_two {w w1 w' w1' : World} {l : List (BitVec 8)} {e e' : Ending} (h : UnfTold w w1 l e) (h' : UnfTold w' w1' l e') :
    ∃ (p : List (BitVec 8)) (va va' : Option Addr) (vc vc' : Nat) (ei : Int), e = .returned (.tuple #[.slice va p.length vc, .int .i64 ei]) ∧ e' = .returned (.tuple #[.slice va' p.length vc', .int .i64 ei]) ∧
      w1.ownsRow w.heap.size 5 1 (.slice va p.length vc) p.length (cellsOf p) ∧ w1'.ownsRow w'.heap.size 5 1 (.slice va' p.length vc') p.length (cellsOf p) ∧ p.length ≤ l.length := by
  rcases h with ⟨h0, rfl⟩ | ⟨h0, v, rfl, o⟩
  · rcases h' with ⟨_, rfl⟩ | ⟨h1, _⟩
    · exact ⟨[], none, none, 0, 0, _, rfl, rfl, World.ownsRow_nil _ _ _ _, World.ownsRow_nil _ _ _ _, Nat.zero_le _⟩
    · exact absurd h1 h0
  · rcases h' with ⟨h1, _⟩ | ⟨_, v', rfl, o'⟩
    · exact absurd h0 h1
    · obtain ⟨va, vc, rfl, _⟩ := owned_form o
      obtain ⟨va', vc', rfl, _⟩ := owned_form o'
      exact ⟨cutBody l, va, va', vc, vc', 0, rfl, rfl, o, o', cutBody_le l⟩
theorem entX_of {w : World} {base n : Nat} {v : Value} {es : List EntV} (h : w.ownsRow base 55 2 v n (entCells es)) (hl : es.length = n) (hE : ∀ e ∈ es, EOwn w base e) : EntX w base n v (es.map Prod.snd) := by
  refine ⟨⟨entCells es, h, fun j hj => ⟨_, (entCells_get es j (by omega)).1⟩, fun j hj => ?_⟩, by simpa using hl, fun u hu => ?_⟩
  · rw [(entCells_get es j (by omega)).2, List.getElem?_map, List.getElem?_eq_getElem (by omega)]
    rfl
  · obtain ⟨e, he, rfl⟩ := List.mem_map.1 hu
    exact ⟨_, _, (hE e he).1, (hE e he).2⟩
theorem EntX.nil (w : World) (base : Nat) : EntX w base 0 (.slice none 0 0) [] := ⟨⟨[], World.ownsRow_nil _ _ _ _, fun j hj => absurd hj (Nat.not_lt_zero _), fun j hj => absurd hj (Nat.not_lt_zero _)⟩, rfl, fun u hu => by cases hu⟩
/-- Both sides' Unmsg. -/
structure UnTwo (w w1 w' w1' : World) (e e' : Ending) (h : HeadD) (E : List (Int × List (BitVec 8))) (D : List (BitVec 8)) (us : List Value) (va va' da da' : Option Addr) (vc vc' dc dc' : Nat) (ei : Int) : Prop where
  e1 : e = .returned (.tuple #[.agg #[.int .i64 h.kind, .int .i64 h.group, .int .i64 h.src, .int .i64 h.dst, .int .i64 h.term, .int .i64 h.index, .int .i64 h.logTerm, .int .i64 h.commit, .bool h.ok, .slice va E.length vc, .slice da D.length dc], .int .i64 ei])
  e2 : e' = .returned (.tuple #[.agg #[.int .i64 h.kind, .int .i64 h.group, .int .i64 h.src, .int .i64 h.dst, .int .i64 h.term, .int .i64 h.index, .int .i64 h.logTerm, .int .i64 h.commit, .bool h.ok, .slice va' E.length vc', .slice da' D.length dc'], .int .i64 ei])
  x1 : EntX w1 w.heap.size E.length (.slice va E.length vc) us
  a1 : EntsAt w1 va E.length E
  a2 : EntsAt w1' va' E.length E
  d1 : w1.ownsRow w.heap.size 5 1 (.slice da D.length dc) D.length (cellsOf D)
  d2 : w1'.ownsRow w'.heap.size 5 1 (.slice da' D.length dc') D.length (cellsOf D)
  lE : E.length ≤ 4096
  lD : D.length ≤ 65536
theorem un_two {w w1 w' w1' : World} {l : List (BitVec 8)} {e e' : Ending} (h : UnTold w w1 l e) (h' : UnTold w' w1' l e') :
    ∃ h E D us va va' da da' vc vc' dc dc' ei, UnTwo w w1 w' w1' e e' h E D us va va' da da' vc vc' dc dc' ei := by
  have hz : ∀ ei : Int, e = .returned (.tuple #[.agg zeroM, .int .i64 ei]) → e' = .returned (.tuple #[.agg zeroM, .int .i64 ei]) → ∃ h E D us va va' da da' vc vc' dc dc' ei, UnTwo w w1 w' w1' e e' h E D us va va' da da' vc vc' dc dc' ei := fun ei h1 h2 =>
    ⟨⟨0, 0, 0, 0, 0, 0, 0, 0, false⟩, [], [], [], none, none, none, none, 0, 0, 0, 0, ei, h1, h2, EntX.nil _ _, ⟨rfl, .inl rfl⟩, ⟨rfl, .inl rfl⟩, World.ownsRow_nil _ _ _ _, World.ownsRow_nil _ _ _ _, by simp, by simp⟩
  rcases h with ⟨h0, h1⟩ | ⟨h0, hn, h1⟩ | ⟨h0, hn, ha, h1⟩ | ⟨h0, hn, ha, es, va, vn, vc, dv, hes, h1, ho, hE, hD, hd⟩
  · rcases h' with ⟨_, g1⟩ | ⟨g0, _⟩ | ⟨g0, _⟩ | ⟨g0, _⟩
    · exact hz 3 h1 g1
    all_goals omega
  · rcases h' with ⟨g0, _⟩ | ⟨_, _, g1⟩ | ⟨_, gn, _⟩ | ⟨_, gn, _⟩
    · omega
    · exact hz _ h1 g1
    · exact absurd gn hn
    · exact absurd gn hn
  · rcases h' with ⟨g0, _⟩ | ⟨_, gn, _⟩ | ⟨_, _, _, g1⟩ | ⟨_, _, ga, _⟩
    · omega
    · exact absurd hn gn
    · exact hz _ h1 g1
    · exact absurd ga ha
  · rcases h' with ⟨g0, _⟩ | ⟨_, gn, _⟩ | ⟨_, _, ga, _⟩ | ⟨_, _, _, es', va', vn', vc', dv', hes', g1, ho', hE', hD', hd'⟩
    · omega
    · exact absurd hn gn
    · exact absurd ha ga
    · obtain ⟨q1, rfl⟩ := ents_owned ho rfl hE
      obtain ⟨q2, rfl⟩ := ents_owned ho' rfl hE'
      obtain ⟨da, dc, rfl, _⟩ := owned_form hd
      obtain ⟨da', dc', rfl, _⟩ := owned_form hd'
      have l1 : es.length = (unE l).1.length := by rw [← hes, List.length_map]
      have l2 : es'.length = (unE l).1.length := by rw [← hes', List.length_map]
      rw [hes] at q1
      rw [hes'] at q2
      rw [l1] at q1 ho h1
      rw [l2] at q2 ho' g1
      refine ⟨rHdV l 0 0, (unE l).1, (unD l).1, es.map Prod.snd, va, va', da, da', vc, vc', dc, dc', 0, h1, g1, entX_of ho l1 hE, q1, q2, hd, hd', ?_, hD⟩
      rw [unE, rEnts_length]
      rw [unN]
      exact rC_most l 4096 _ _ (by omega)
/-- A row is as it was where only the box of a number has changed. -/
theorem owns_box {w w' : World} {base k size Bi : Nat} {t : TypeId} {u : Value} {ys : List Value} {cs : Array Value} {z : Nat × Nat} (h : w.ownsRow base t size u k ys) (hb : w.heap[Bi]? = some (.cells cs 3 z)) (ht : t ≠ 3) (hg : w.grownBy w' (some Bi)) : w'.ownsRow base t size u k ys := by
  refine ⟨h.1, h.2.imp id ?_⟩
  rintro ⟨g, cap, cur, e1, e2, e3, e4⟩
  refine ⟨g, cap, cur, e1, e2, ?_, e4⟩
  rw [hg.block g (Array.getElem?_eq_some_iff.1 e3).1 (fun e => ?_)]
  · exact e3
  · have : g = Bi := by simpa using e
    subst this
    rw [hb] at e3
    injection e3 with e3
    injection e3 with _ e7
    exact ht e7.symm
/-- What is there while frames are ranged over: all that was, but the number's box. -/
structure FrS (w W X : World) (Bi j : Nat) : Prop where
  bel : Below w.heap.size w W
  lB : w.heap.size ≤ Bi
  was : ∃ z, W.heap[Bi]? = some (.cells #[.int .i64 z] 3 (0, 0))
  grown : W.grownBy X (some Bi)
  box : X.heap[Bi]? = some (.cells #[.int .i64 (j : Nat)] 3 (0, 0))
theorem FrS.sz {w W X : World} {Bi j : Nat} (h : FrS w W X Bi j) : Bi < W.heap.size := by
  obtain ⟨z, hz⟩ := h.was
  exact (Array.getElem?_eq_some_iff.1 hz).1
theorem FrS.all {w W X : World} {Bi j : Nat} (h : FrS w W X Bi j) : Below w.heap.size w X := h.bel.grown h.grown h.bel.size (fun k e => by have := Option.some.inj e; have := h.lB; omega)
theorem FrS.low {w W X Y : World} {Bi j : Nat} (h : FrS w W X Bi j) (b : Below W.heap.size X Y) : FrS w W Y Bi j :=
  ⟨h.bel, h.lB, h.was, ⟨b.os.trans h.grown.os, b.tape.trans h.grown.tape, b.output.trans h.grown.output, Nat.le_trans h.grown.size b.size, fun k hk hr => (b.block k hk).trans (h.grown.block k hk hr)⟩, (b.block _ h.sz).trans h.box⟩
theorem FrS.row {w W X : World} {Bi j base k size : Nat} {t : TypeId} {u : Value} {ys : List Value} (h : FrS w W X Bi j) (hr : W.ownsRow base t size u k ys) (ht : t ≠ 3) : X.ownsRow base t size u k ys := by
  obtain ⟨z, hz⟩ := h.was
  exact owns_box hr hz ht h.grown
theorem FrS.kept {w W X : World} {Bi j k : Nat} {o : Obj} (h : FrS w W X Bi j) (hk : W.heap[k]? = some o) (hn : k ≠ Bi) : X.heap[k]? = some o := by
  rw [h.grown.block k (Array.getElem?_eq_some_iff.1 hk).1 (fun e => hn (by simpa using e))]
  exact hk
/-- The frame's bytes are spoilt, and the number goes on. -/
theorem FrS.next {w W X Y : World} {Bi j n : Nat} {v : Value} {xs : List Value} (h : FrS w W X Bi j) (ho : X.ownsRow W.heap.size 5 1 v n xs) (hg : X.grownBy Y v.ownBlock) (i : Nat) : FrS w W (Y.setCell ⟨Bi, 0, none⟩ (.int .i64 (i : Nat))) Bi i := by
  have hB := h.sz
  have b1 : Below W.heap.size X Y := (Below.refl _ X).grown hg h.grown.size (fun k e => (ho.lt _ e).1)
  have h1 := h.low b1
  refine ⟨h.bel, h.lB, h.was, ⟨h1.grown.os, h1.grown.tape, h1.grown.output, by simpa [World.setCell] using h1.grown.size, fun k hk hr => ?_⟩, ?_⟩
  · rw [Below.heap_setCell _ _ _ k (fun e => hr (by simpa using e))]
    exact h1.grown.block k hk hr
  · have := set_block h1.box 0 (.int .i64 (i : Nat))
    simpa using this
theorem FrS.keeps {w W X Y : World} {Bi j n : Nat} {v : Value} {xs : List Value} (h : FrS w W X Bi j) (hT : Tabs w) (ho : X.ownsRow W.heap.size 5 1 v n xs) (hg : X.grownBy Y v.ownBlock) (i : Nat) :
    KeepsFrom W.heap.size X (Y.setCell ⟨Bi, 0, none⟩ (.int .i64 (i : Nat))) ∧ Kc W.heap.size W.heap.size X (Y.setCell ⟨Bi, 0, none⟩ (.int .i64 (i : Nat))) := by
  have hB := h.sz
  have hn := h.next ho hg i
  have hat : ∀ k, v.ownBlock = some k → ∃ cs z, X.heap[k]? = some (.cells cs 5 z) := fun k e => by
    rcases ho.2 with ⟨rfl, _⟩ | ⟨g, cap, cur, rfl, hb, hc, _⟩
    · cases e
    · obtain rfl : g = k := by simpa [Value.ownBlock] using e
      exact ⟨_, _, hc⟩
  have hne : ∀ k o, X.heap[k]? = some o → (∀ cs z, o ≠ .cells cs 5 z) → k ≠ Bi → (Y.setCell ⟨Bi, 0, none⟩ (.int .i64 (i : Nat))).heap[k]? = some o := fun k o hk h5 hkb => by
    rw [Below.heap_setCell _ _ _ k (fun e => hkb (by simpa using e)), hg.block k (Array.getElem?_eq_some_iff.1 hk).1 (fun e => ?_)]
    · exact hk
    · obtain ⟨cs, z, hc⟩ := hat k e.symm
      rw [hk] at hc
      exact h5 cs z (Option.some.inj hc)
  refine ⟨⟨by have := hg.size; simpa [World.setCell] using this, fun k o hk ho hc => hne k o ho (fun cs z e => by subst e; cases hc) (by omega)⟩, ⟨fun b off x hb hx => ?_, fun k cs t z hk hx ht => hne k _ hx (fun cs' z' e => by injection e with _ e; exact ht e) (by omega), fun _ => ?_⟩⟩
  · have hbi : b ≠ Bi := fun e => by
      subst e
      simp only [World.cell?, h.box] at hx
      cases off with
      | zero => simp at hx
      | succ m => simp at hx
    have : (Y.setCell ⟨Bi, 0, none⟩ (.int .i64 (i : Nat))).heap[b]? = X.heap[b]? := by
      obtain ⟨o, h2, _⟩ := cells_of_cell hx
      rw [Below.heap_setCell _ _ _ b (fun e => hbi (by simpa using e)), hg.block b (Array.getElem?_eq_some_iff.1 h2).1 (fun e => ?_)]
      have := (ho.lt _ e.symm).1
      omega
    rw [← hx]
    exact World.cell?_of_block (w := X) this
  · exact hT.below hn.all hT.size
end Go.Proofs.YtpnnbkhlbohfbaaDoor

namespace Go.Proofs.YtpnnbkhlbohfbaaDoor
open Go.RowKit Go.Shelf Cod
attribute [local go_sem] Oper.semAt_some
set_option linter.unusedVariables false

theorem wpList_load_rowG {P : Program} {ops : Array Oper} {rest : List Oper} {o : Oper} {a : Act} {w : World} {Q : Exit → Act → World → Prop} (hgd : Region.wanted o (yielded ops a.tmps) = true) (ty : TypeId) (x : Operand) (ho : o.op = .load ty x)
    (g : Nat) (hx : a.eval x = .pointer (some ⟨g, 0, none⟩)) (t : TypeId) (cs : Array Value) (fr : Nat × Nat) (d : TypeDesc) (hg : w.heap[g]? = some (.cells cs t fr))
    (hu : P.underlying ty = some d) (hd : (match d with | .struct _ | .array _ _ => true | _ => false) = true) (hi : (P.info? ty).map (·.size) = some cs.size)
    (h : wpList P ops Q rest (a.put o.dst (.agg cs)) w) : wpList P ops Q (o :: rest) a w :=
  wpList_step fun K hK => by rw [if_pos hgd]; exact wp_load_row ty x ho g hx t cs fr d hg hu hd hi (hK _ _ h)
theorem owns_past {w w' : World} {base n size : Nat} {e : TypeId} {v : Value} {xs : List Value} {row : Option Nat} (h : w.ownsRow base e size v n xs) (hg : w.grownBy w' row) (hR : ∀ r, row = some r → r < base) : w'.ownsRow base e size v n xs := by
  refine ⟨h.1, h.2.imp id ?_⟩
  rintro ⟨g, cap, cur, e1, e2, e3, e4⟩
  refine ⟨g, cap, cur, e1, e2, ?_, e4⟩
  rw [hg.block g (Array.getElem?_eq_some_iff.1 e3).1 (fun e => by have := hR _ e.symm; omega)]
  exact e3
theorem unf_form {w w1 : World} {l : List (BitVec 8)} {e : Ending} (h : UnfTold w w1 l e) : ∃ va n vc ei, e = .returned (.tuple #[.slice va n vc, .int .i64 ei]) := by
  rcases h with ⟨h0, rfl⟩ | ⟨h0, v, rfl, o⟩
  · exact ⟨none, 0, 0, _, rfl⟩
  · obtain ⟨va, vc, rfl, _⟩ := owned_form o
    exact ⟨va, _, vc, 0, rfl⟩
theorem un_form {w w1 : World} {l : List (BitVec 8)} {e : Ending} (h : UnTold w w1 l e) : ∃ (k1 k2 k3 k4 k5 k6 k7 k8 : Int) (k9 : Bool) (va : Option Addr) (n vc : Nat) (da : Option Addr) (m dc : Nat) (ei : Int), e = .returned (.tuple #[.agg #[.int .i64 k1, .int .i64 k2, .int .i64 k3, .int .i64 k4, .int .i64 k5, .int .i64 k6, .int .i64 k7, .int .i64 k8, .bool k9, .slice va n vc, .slice da m dc], .int .i64 ei]) := by
  rcases h with ⟨h0, rfl⟩ | ⟨h0, hn, rfl⟩ | ⟨h0, hn, ha, rfl⟩ | ⟨h0, hn, ha, es, va, vn, vc, dv, hes, rfl, ho, hE, hD, hd⟩
  · exact ⟨0, 0, 0, 0, 0, 0, 0, 0, false, none, 0, 0, none, 0, 0, _, rfl⟩
  · exact ⟨0, 0, 0, 0, 0, 0, 0, 0, false, none, 0, 0, none, 0, 0, _, rfl⟩
  · exact ⟨0, 0, 0, 0, 0, 0, 0, 0, false, none, 0, 0, none, 0, 0, _, rfl⟩
  · obtain ⟨da, dc, rfl, _⟩ := owned_form hd
    exact ⟨_, _, _, _, _, _, _, _, _, va, vn, vc, da, _, dc, 0, rfl⟩

set_option maxRecDepth 100000 in
set_option maxHeartbeats 8000000 in
theorem codecFrames_any (a : Option Addr) (len cap : Nat) (l : List (BitVec 8)) (w : World) (hT : Tabs w) (h : Seen w a len l) (hnil : a = none → cap = 0) (hk : len ≤ cap) (hm : len ≤ 1048576) :
    Calls Tryd.prog 3 #[.slice a len cap] w fun e w' => e = .returned (.bool true) ∧ Below w.heap.size w w' := by
  refine (callsIn_wide (n := 5)).1 ?_
  refine callsIn_of_wp_marks Tryd.func3 rfl trivial ?_ rfl
  refine wpIn_wide.2 ?_
  simp only [Tryd.ntmps3, List.size_toArray, List.length_cons, List.length_nil, Nat.reduceAdd, Nat.reduceSub, Array.replicate_succ, Array.replicate_zero, List.push_toArray, List.append_toArray, List.nil_append, List.cons_append]
  obtain rfl : len = l.length := h.1
  have HT : Hid (Tabs w) := hT
  have HS : Hid (Seen w a l.length l) := h
  have HN : Hid (a = none → cap = 0) := hnil
  have HK : Hid (l.length ≤ cap) := hk
  have HM : Hid (l.length ≤ 1048576) := hm
  have HLo : Hid (0 < l.length → ∀ y, a = some y → y.block < w.heap.size) := fun h0 y e => by
    subst e
    rcases h.2.2 with h1 | ⟨b, off, e, hc⟩
    · omega
    · cases e
      exact World.block_lt_of_cell? w _ (hc 0 h0)
  clear hT h hnil hk hm
  obtain ⟨w0, hw0⟩ : ∃ w0, w.alloc (.cells #[.bool false] 4) = w0 := ⟨_, rfl⟩
  have R0 : Hid (w0.heap[w.heap.size]? = some (.cells #[.bool false] 4 (0, 0))) := by rw [← hw0]; exact heap_alloc_new w _
  have B0 : Hid (Below w.heap.size w w0) := by rw [← hw0]; exact (Below.refl _ w).alloc (Nat.le_refl _) _
  go_wp2_with fail
  have CL := lent_any a l.length cap l w0 (HS.out.below B0.out) HN.out (by have := HM.out; omega)
  refine CL.mono ?_
  clear CL
  rintro e w1 ⟨g, c, rfl, o1, b1⟩
  have B1 : Hid (Below w.heap.size w w1) := B0.out.trans (b1.mono B0.out.size)
  have O1 : Hid (w1.ownsRow w0.heap.size 5 1 (.slice (some ⟨g, 0, none⟩) (l.length + 1) c) (l.length + 1) (cellsOf (l ++ [167#8]))) := o1
  obtain ⟨_, _, es1, ss1, _, hcap⟩ := owned_seen o1 (by have := HM.out; unfold maxLen; omega)
  cases es1
  have S1 : Hid (Seen w1 (some ⟨g, 0, none⟩) l.length l) := by
    have := ss1.take l.length (by simp)
    rwa [List.take_left] at this
  have HC : Hid (l.length ≤ c) := by show _ ≤ _; omega
  have HG : Hid (w0.heap.size ≤ g ∧ g < w1.heap.size) := by
    obtain ⟨g', c', e, h1, h2⟩ := o1.form (by omega)
    cases e
    exact ⟨h1, (World.ownsRow.lt o1 g rfl).2⟩
  have R1 : Hid (w1.heap[w.heap.size]? = some (.cells #[.bool false] 4 (0, 0))) := (b1.block _ (Array.getElem?_eq_some_iff.1 R0.out).1).trans R0.out
  have SZ1 : Hid (w.heap.size < w1.heap.size) := (Array.getElem?_eq_some_iff.1 R1.out).1
  clear b1 o1 ss1 hcap hw0 R0
  go_wp2_with fail
  refine (unframe_told (some ⟨g, 0, none⟩) l.length c l w1 (HT.out.below B1.out HT.out.size) S1.out (fun e => by cases e) HC.out (by have := HM.out; omega)).mono ?_
  rintro e w2 ⟨t2, b2⟩
  obtain ⟨va, n, vc, ei, rfl⟩ := unf_form t2
  have B2 : Hid (Below w1.heap.size w1 w2) := b2
  have T2 : Hid (UnfTold w1 w2 l _) := t2
  clear b2 t2
  go_wp2_with fail
  refine (runframe_any a l.length cap l w2 (HS.out.below (B1.out.trans (B2.out.mono B1.out.size))) HN.out HK.out (by have := HM.out; omega)).mono ?_
  rintro e w3 ⟨t3, b3⟩
  obtain ⟨va', n', vc', ei', rfl⟩ := unf_form t3
  obtain ⟨p, pa, pa', pc, pc', pe, e1, e2, ox, oy, hp⟩ := unf_two T2.out t3
  cases e1
  cases e2
  have B3 : Hid (Below w1.heap.size w1 w3) := B2.out.trans (b3.mono B2.out.size)
  have OX : Hid (w3.ownsRow w1.heap.size 5 1 (.slice va p.length vc) p.length (cellsOf p)) := owns_below ox b3
  have OY : Hid (w3.ownsRow w2.heap.size 5 1 (.slice va' p.length vc') p.length (cellsOf p)) := oy
  have HP : Hid (p.length ≤ l.length) := hp
  have HLX : Hid (∀ k, (Value.slice va p.length vc).ownBlock = some k → w1.heap.size ≤ k ∧ k < w3.heap.size) := fun k e => World.ownsRow.lt OX.out k e
  have SB3 : Hid (Below w.heap.size w w3) := B1.out.trans (B3.out.mono B1.out.size)
  clear b3 t3 T2 ox oy hp B2
  go_wp2_with fail
  refine (unmsg_any (some ⟨g, 0, none⟩) l.length c l w3 (S1.out.below B3.out) (fun e => by cases e) HC.out (by have := HM.out; omega)).mono ?_
  rintro e w4 ⟨t4, b4⟩
  obtain ⟨k1, k2, k3, k4, k5, k6, k7, k8, k9, ma, mn, mc, da, dn, dc, mi, rfl⟩ := un_form t4
  have B4 : Hid (Below w3.heap.size w3 w4) := b4
  have T4 : Hid (UnTold w3 w4 l _) := t4
  clear b4 t4
  obtain ⟨w5, hw5⟩ : ∃ w5, w4.alloc (.cells #[.int .i64 k1, .int .i64 k2, .int .i64 k3, .int .i64 k4, .int .i64 k5, .int .i64 k6, .int .i64 k7, .int .i64 k8, .bool k9, .slice ma mn mc, .slice da dn dc] 29) = w5 := ⟨_, rfl⟩
  have X5 : Hid (w5.heap[w4.heap.size]? = some (.cells #[.int .i64 k1, .int .i64 k2, .int .i64 k3, .int .i64 k4, .int .i64 k5, .int .i64 k6, .int .i64 k7, .int .i64 k8, .bool k9, .slice ma mn mc, .slice da dn dc] 29 (0, 0))) := by rw [← hw5]; exact heap_alloc_new w4 _
  have B45 : Hid (Below w4.heap.size w4 w5) := by rw [← hw5]; exact (Below.refl _ w4).alloc (Nat.le_refl _) _
  have B5 : Hid (Below w3.heap.size w3 w5) := B4.out.trans (B45.out.mono B4.out.size)
  go_wp2_with fail
  clear hw5
  refine (runmsg_any a l.length cap l w5 (HS.out.below (SB3.out.trans (B5.out.mono SB3.out.size))) HN.out (by have := HM.out; omega)).mono ?_
  rintro e w6 ⟨t6, b6⟩
  obtain ⟨j1, j2, j3, j4, j5, j6, j7, j8, j9, ma', mn', mc', da', dn', dc', mi', rfl⟩ := un_form t6
  obtain ⟨⟨g1, g2, g3, g4, g5, g6, g7, g8, g9⟩, E, D, us, xa, xa', xd, xd', xc, xc', xdc, xdc', xe, U⟩ := un_two T4.out t6
  have e1 := U.e1
  have e2 := U.e2
  simp only at e1 e2
  cases e1
  cases e2
  have HU : Hid _ := U
  have B36 : Hid (Below w3.heap.size w3 w6) := B5.out.trans (b6.mono B5.out.size)
  have B46 : Hid (Below w4.heap.size w4 w6) := B45.out.trans (b6.mono B45.out.size)
  have X6 : Hid (w6.heap[w4.heap.size]? = some (.cells #[.int .i64 k1, .int .i64 k2, .int .i64 k3, .int .i64 k4, .int .i64 k5, .int .i64 k6, .int .i64 k7, .int .i64 k8, .bool k9, .slice ma E.length mc, .slice da D.length dc] 29 (0, 0))) := (b6.block _ (Array.getElem?_eq_some_iff.1 X5.out).1).trans X5.out
  clear b6 t6 T4 U X5 B5 B45
  obtain ⟨w7, hw7⟩ : ∃ w7, w6.alloc (.cells #[.int .i64 k1, .int .i64 k2, .int .i64 k3, .int .i64 k4, .int .i64 k5, .int .i64 k6, .int .i64 k7, .int .i64 k8, .bool k9, .slice ma' E.length mc', .slice da' D.length dc'] 29) = w7 := ⟨_, rfl⟩
  have B67 : Hid (Below w6.heap.size w6 w7) := by rw [← hw7]; exact (Below.refl _ w6).alloc (Nat.le_refl _) _
  have Y7 : Hid (w7.heap[w6.heap.size]? = some (.cells #[.int .i64 k1, .int .i64 k2, .int .i64 k3, .int .i64 k4, .int .i64 k5, .int .i64 k6, .int .i64 k7, .int .i64 k8, .bool k9, .slice ma' E.length mc', .slice da' D.length dc'] 29 (0, 0))) := by rw [← hw7]; exact heap_alloc_new w6 _
  have X7 : Hid (w7.heap[w4.heap.size]? = some (.cells #[.int .i64 k1, .int .i64 k2, .int .i64 k3, .int .i64 k4, .int .i64 k5, .int .i64 k6, .int .i64 k7, .int .i64 k8, .bool k9, .slice ma E.length mc, .slice da D.length dc] 29 (0, 0))) := (B67.out.block _ (Array.getElem?_eq_some_iff.1 X6.out).1).trans X6.out
  have B37 : Hid (Below w3.heap.size w3 w7) := B36.out.trans (B67.out.mono B36.out.size)
  have OX7 : Hid (w7.ownsRow w1.heap.size 5 1 (.slice va p.length vc) p.length (cellsOf p)) := owns_below OX.out B37.out
  obtain ⟨_, _, eq1, sx, _, _⟩ := owned_seen OX7.out (by have := HP.out; have := HM.out; unfold maxLen; omega)
  cases eq1
  obtain ⟨_, _, eq2, sy, _, _⟩ := owned_seen (owns_below OY.out B37.out) (by have := HP.out; have := HM.out; unfold maxLen; omega)
  cases eq2
  have t1 : (convert 22 9 (.slice va p.length vc)).run Tryd.prog w7 = .ok (.string (textOf p)) w7 := run_to_text w7 va _ vc p sx
  have t2 : (convert 22 9 (.slice va' p.length vc')).run Tryd.prog w7 = .ok (.string (textOf p)) w7 := run_to_text w7 va' _ vc' p sy
  have hxs := text_self (textOf p)
  obtain ⟨_, _, eq3, sd, _, _⟩ := owned_seen (owns_below HU.out.d1 (B46.out.trans (B67.out.mono B46.out.size))) (by have := HU.out.lD; unfold maxLen; omega)
  cases eq3
  obtain ⟨_, _, eq4, sd', _, _⟩ := owned_seen (owns_below HU.out.d2 B67.out) (by have := HU.out.lD; unfold maxLen; omega)
  cases eq4
  have MS : Hid (Calls Tryd.prog 9 #[.agg #[.int .i64 k1, .int .i64 k2, .int .i64 k3, .int .i64 k4, .int .i64 k5, .int .i64 k6, .int .i64 k7, .int .i64 k8, .bool k9, .slice ma E.length mc, .slice da D.length dc], .agg #[.int .i64 k1, .int .i64 k2, .int .i64 k3, .int .i64 k4, .int .i64 k5, .int .i64 k6, .int .i64 k7, .int .i64 k8, .bool k9, .slice ma' E.length mc', .slice da' D.length dc']] w7 fun e w' => ∃ r : Bool, e = .returned (.bool r) ∧ (r = true ↔ (⟨k1, k2, k3, k4, k5, k6, k7, k8, k9⟩ : HeadD) = ⟨k1, k2, k3, k4, k5, k6, k7, k8, k9⟩ ∧ E = E ∧ D = D) ∧ Below w7.heap.size w7 w') := sameMsg_any ⟨k1, k2, k3, k4, k5, k6, k7, k8, k9⟩ ⟨k1, k2, k3, k4, k5, k6, k7, k8, k9⟩ ma ma' E.length mc E.length mc' E E da da' D.length dc D.length dc' D D w7 (HU.out.a1.below (B46.out.trans (B67.out.mono B46.out.size))) (HU.out.a2.below B67.out) (by have := HU.out.lE; omega) sd sd'
  clear sx sy sd sd' X6 OX OY B36
  generalize textOf p = tp at *
  go_wp2_with (first
    | (refine wpList_load_rowG (by rfl) 29 (.tmp 8) rfl w4.heap.size rfl 29 _ (0, 0) _ X7.out Tryd.underlying29 rfl (by kernel_rfl) ?_; refine wpList_load_rowG (by rfl) 29 (.tmp 10) rfl w6.heap.size rfl 29 _ (0, 0) _ Y7.out Tryd.underlying29 rfl (by kernel_rfl) ?_))
  refine MS.out.mono ?_
  rintro e w8 ⟨r, rfl, hr, b8⟩
  obtain rfl : r = true := by simpa using hr
  have B78 : Hid (Below w7.heap.size w7 w8) := b8
  have B8 : Hid (Below w3.heap.size w3 w8) := B37.out.trans (b8.mono B37.out.size)
  have OX8 : Hid (w8.ownsRow w1.heap.size 5 1 (.slice va p.length vc) p.length (cellsOf p)) := owns_below OX7.out b8
  have X8 : Hid (w8.heap[w4.heap.size]? = some (.cells #[.int .i64 k1, .int .i64 k2, .int .i64 k3, .int .i64 k4, .int .i64 k5, .int .i64 k6, .int .i64 k7, .int .i64 k8, .bool k9, .slice ma E.length mc, .slice da D.length dc] 29 (0, 0))) := (b8.block _ (Array.getElem?_eq_some_iff.1 X7.out).1).trans X7.out
  have LX : Hid (∀ k, (Value.slice va p.length vc).ownBlock = some k → w1.heap.size ≤ k ∧ k < w3.heap.size) := HLX
  have SX := spoil_x w1.heap.size (.slice va p.length vc) p.length (cellsOf p) w8 OX8.out (Nat.le_trans B3.out.size B8.out.size) (by have := HP.out; have := HM.out; omega)
  clear b8 hr MS t1 t2 hxs OX7 X7 Y7 B37
  go_wp2_with fail
  refine SX.mono ?_
  clear SX
  rintro e w9 ⟨⟨_, rfl⟩, g9, _⟩
  have far : ∀ {base k size : Nat} {t : TypeId} {u : Value} {ys : List Value}, w3.heap.size ≤ base → w8.ownsRow base t size u k ys → w9.ownsRow base t size u k ys := fun hb h => owns_past h g9 (fun r e => Nat.lt_of_lt_of_le (LX.out r e).2 hb)
  have X9 : Hid (w9.heap[w4.heap.size]? = some (.cells #[.int .i64 k1, .int .i64 k2, .int .i64 k3, .int .i64 k4, .int .i64 k5, .int .i64 k6, .int .i64 k7, .int .i64 k8, .bool k9, .slice ma E.length mc, .slice da D.length dc] 29 (0, 0))) := by
    show w9.heap[w4.heap.size]? = _
    rw [g9.block _ (Array.getElem?_eq_some_iff.1 X8.out).1 (fun e => by have := (LX.out _ e.symm).2; have := B4.out.size; omega)]
    exact X8.out
  have B48 : Below w4.heap.size w4 w8 := B46.out.trans ((B67.out.mono B46.out.size).trans (B78.out.mono (Nat.le_trans B46.out.size B67.out.size)))
  have E9 : EntX w9 w3.heap.size E.length (.slice ma E.length mc) us := by
    obtain ⟨xs0, hr, hz, hu⟩ := HU.out.x1.row
    exact ⟨⟨xs0, far (Nat.le_refl _) (owns_below hr B48), hz, hu⟩, HU.out.x1.len, fun u hu => by obtain ⟨m', ys, h1, h2⟩ := HU.out.x1.own u hu; exact ⟨m', ys, h1, far (Nat.le_refl _) (owns_below h2 B48)⟩⟩
  have D9 := far (Nat.le_refl _) (owns_below HU.out.d1 B48)
  have B9 : Hid (Below w1.heap.size w1 w9) := (B3.out.trans (B8.out.mono B3.out.size)).grown g9 (Nat.le_trans B3.out.size B8.out.size) (fun k e => (LX.out k e).1)
  have L39 : Hid (w3.heap.size ≤ w9.heap.size) := Nat.le_trans B8.out.size g9.size
  have SM := spoilMsg_any w3.heap.size E.length D.length (.slice ma E.length mc) (.slice da D.length dc) us (cellsOf D) k1 k2 k3 k4 k5 k6 k7 k8 k9 w9 E9 D9 L39.out (by have := HU.out.lE; omega) (by have := HU.out.lD; omega)
  clear far B48 E9 D9 g9 B8 OX8 X8 B78 B67 B46 LX HLX HU B4
  go_wp2_with (first
    | (refine wpList_load_row rfl 29 (.tmp 8) rfl w4.heap.size rfl 29 _ (0, 0) _ X9.out Tryd.underlying29 rfl (by kernel_rfl) ?_))
  refine SM.mono ?_
  clear SM
  rintro e w10 ⟨⟨_, rfl⟩, b10⟩
  have B10 : Hid (Below w1.heap.size w1 w10) := B9.out.trans (b10.mono B3.out.size)
  have W10 : Hid (Below w.heap.size w w10) := B1.out.trans (B10.out.mono B1.out.size)
  clear b10 B9 X9 L39 SB3
  go_wp2_with fail
  refine (rframes_any a l.length cap l w10 (HS.out.below W10.out) HN.out HK.out HM.out (fun h0 y e => Nat.lt_of_lt_of_le (HLo.out h0 y e) W10.out.size)).mono ?_
  rintro e w11 ⟨wv, K, rfl, fl, hKl, hgood, hbad, b11⟩
  obtain ⟨vs, hrow, hvs⟩ := fl
  obtain ⟨wa, wc, rfl⟩ : ∃ wa wc, wv = .slice wa K wc := by
    rcases hrow.2 with ⟨rfl, rfl⟩ | ⟨g', c', cur, rfl, _⟩
    · exact ⟨none, 0, rfl⟩
    · exact ⟨_, c', rfl⟩
  have HKL : Hid (K ≤ l.length) := hKl
  have HGo : Hid (∀ j, j < K → good l j) := hgood
  have HBa : Hid (¬ good l K) := hbad
  obtain ⟨w12, hw12⟩ : ∃ w12, w11.alloc (.cells #[.slice wa K wc] 35) = w12 := ⟨_, rfl⟩
  have bb : Below w11.heap.size w11 w12 := by rw [← hw12]; exact (Below.refl _ w11).alloc (Nat.le_refl _) _
  have Bw : Hid (w12.heap[w11.heap.size]? = some (.cells #[.slice wa K wc] 35 (0, 0))) := by rw [← hw12]; exact heap_alloc_new w11 _
  have RW : Hid (w12.ownsRow w10.heap.size 22 1 (.slice wa K wc) K vs) := owns_below hrow bb
  have RV : Hid (∀ j, j < K → ∃ u, vs[j]? = some u ∧ w12.ownsRow w10.heap.size 5 1 u (cutBody (rk l j)).length (cellsOf (cutBody (rk l j)))) := fun j hj => by
    obtain ⟨u, h1, h2⟩ := hvs j hj
    exact ⟨u, h1, owns_below h2 bb⟩
  have B12 : Hid (Below w1.heap.size w1 w12) := (B10.out.trans (b11.mono B10.out.size)).trans (bb.mono (Nat.le_trans B10.out.size b11.size))
  clear hrow hvs hKl hgood hbad b11 bb B10 W10
  go_wp2_with fail
  clear hw12
  refine (frames_any (some ⟨g, 0, none⟩) l.length c l w12 (S1.out.below B12.out) (fun e => by cases e) (by have := HM.out; omega)).mono ?_
  rintro e w13 ⟨B, a5, c5, rfl, b13, x5, s5, m5, k5, l5⟩
  have hsq := seq_some w13 (.func 34) #[] #[.pointer (some ⟨B, 0, none⟩)]
  go_wp2_with fail
  obtain ⟨w14, hw14⟩ : ∃ w14, w13.alloc (.cells #[.int .i64 0] 3) = w14 := ⟨_, rfl⟩
  have b14 : Below w13.heap.size w13 w14 := by rw [← hw14]; exact (Below.refl _ w13).alloc (Nat.le_refl _) _
  have Bi : w14.heap[w13.heap.size]? = some (.cells #[.int .i64 ((0 : Nat) : Int)] 3 (0, 0)) := by rw [← hw14]; exact heap_alloc_new w13 _
  have B14 : Below w1.heap.size w1 w14 := (B12.out.trans (b13.mono B12.out.size)).trans (b14.mono (Nat.le_trans B12.out.size b13.size))
  have b24 : Below w12.heap.size w12 w14 := b13.trans (b14.mono b13.size)
  have F0 : Hid (FrS w w14 w14 w13.heap.size 0) := ⟨B1.out.trans (B14.mono B1.out.size), by have := SZ1.out; have := B12.out.size; have := b13.size; omega, ⟨_, Bi⟩, grown_refl _ _, Bi⟩
  have T14 : Hid (Tabs w14) := HT.out.below F0.out.bel HT.out.size
  have C14 : Hid (w14.cell? ⟨B, 0, none⟩ = some (.slice a5 l.length c5)) := (b14.cell (p := ⟨B, 0, none⟩) (World.block_lt_of_cell? w13 _ x5)).trans x5
  have S14 : Hid (Seen w14 a5 l.length l) := s5.below b14
  have N14 : Hid ((a5 = none → c5 = 0) ∧ l.length ≤ c5 ∧ ∀ y, a5 = some y → y.block < w14.heap.size) := ⟨m5, k5, fun y e => Nat.lt_of_lt_of_le (l5 y e) b14.size⟩
  have BW14 : Hid (w14.heap[w11.heap.size]? = some (.cells #[.slice wa K wc] 35 (0, 0))) := (b24.block _ (Array.getElem?_eq_some_iff.1 Bw.out).1).trans Bw.out
  have RW14 : Hid (w14.ownsRow w10.heap.size 22 1 (.slice wa K wc) K vs) := owns_below RW.out b24
  have RV14 : Hid (∀ j, j < K → ∃ u, vs[j]? = some u ∧ w14.ownsRow w10.heap.size 5 1 u (cutBody (rk l j)).length (cellsOf (cutBody (rk l j)))) := fun j hj => by
    obtain ⟨u, h1, h2⟩ := RV.out j hj
    exact ⟨u, h1, owns_below h2 b24⟩
  have O14 : Hid (w14.ownsRow w0.heap.size 5 1 (.slice (some ⟨g, 0, none⟩) (l.length + 1) c) (l.length + 1) (cellsOf (l ++ [167#8]))) := owns_below O1.out B14
  have R14 : Hid (w14.heap[w.heap.size]? = some (.cells #[.bool false] 4 (0, 0))) := (B14.block _ SZ1.out).trans R1.out
  have NE : Hid (w11.heap.size ≠ w13.heap.size ∧ w.heap.size ≠ w13.heap.size) := ⟨fun e => by have h1 := (Array.getElem?_eq_some_iff.1 Bw.out).1; have := b13.size; omega, fun e => by have := SZ1.out; have := B12.out.size; have := b13.size; omega⟩
  clear x5 s5 m5 k5 l5 b13 b14 Bi B14 b24 RW RV Bw O1 S1 R1 B12 B3 HG HC
  rw [hw14]
  clear hw14 hsq
  refine (wpIn_wide (n := 5)).1 ?_
  refine range_1 (n := 5) (gf := 34) (lb := #[.pointer (some ⟨B, 0, none⟩)]) (w0 := w14) (v := fun x : GotV => x.v) (by simp) rfl (enters_of Tryd.func34 (by kernel_rfl) rfl)
    (frames1_seq 4 w14.heap.size w14.heap.size B a5 l.length c5 l w14 T14.out (Nat.le_refl _) (Nat.le_refl _) C14.out S14.out N14.out.1 N14.out.2.1 (by have := HM.out; omega) N14.out.2.2) Kc.tr (fun A => Kc.of_below (Below.refl _ _)) Kc.bk (Below.refl _ _) ?hR
    (fun pre X => pre.length ≤ K ∧ FrS w w14 X w13.heap.size pre.length) (fun _ _ _ => False) ?hI (fun _ _ _ _ h _ => h) ⟨Nat.zero_le _, F0.out⟩ ?body ?done (fun _ _ _ _ _ _ h _ => h.elim)
  case hR =>
    rintro pre x _ X Y row ⟨h1, h2, h3, h4⟩ hg hrow
    refine ⟨h1, h2, h3, ?_⟩
    refine ⟨h4.1, h4.2.imp id ?_⟩
    rintro ⟨g, cap, cur, e1, hb, hgg, hr⟩
    exact ⟨g, cap, cur, e1, hb, (grownBy_keeps_cells hg (fun r e => (hrow r e).2) hgg rfl).trans hgg, hr⟩
  case hI =>
    rintro pre X Y ⟨h1, h2⟩ hb
    exact ⟨h1, h2.low hb⟩
  case body =>
    rintro l' pre ⟨xv, xp⟩ X ⟨h1, h2⟩ ⟨hg, hp, hpl, ho⟩
    simp only at hp hpl ho ⊢
    have hlt : pre.length < K := by
      rcases Nat.lt_or_ge pre.length K with h | h
      · exact h
      · exact absurd hg (by rw [show pre.length = K by omega]; exact HBa.out)
    obtain ⟨u, hu1, hu2⟩ := RV14.out pre.length hlt
    rw [← hp] at hu2
    have ru := h2.row hu2 (by decide)
    obtain ⟨ua, uc, rfl, su, _, _⟩ := owned_seen ru (by unfold maxLen; omega)
    obtain ⟨xa, xc, rfl, sx, _, _⟩ := owned_seen ho (by unfold maxLen; omega)
    have t1 : ∀ q, (convert 22 9 (.slice xa xp.length xc)).run Tryd.prog (X.drewN q) = .ok (.string (textOf xp)) (X.drewN q) := fun q => run_to_text _ xa xp.length xc xp (sx.drewN q)
    have t2 : ∀ q, (convert 22 9 (.slice ua xp.length uc)).run Tryd.prog (X.drewN q) = .ok (.string (textOf xp)) (X.drewN q) := fun q => run_to_text _ ua xp.length uc xp (su.drewN q)
    have rw' := h2.row RW14.out (by decide)
    obtain ⟨gw, cw, e, _, _⟩ := rw'.form (by omega)
    cases e
    have d1 : X.cell? ⟨gw, pre.length, none⟩ = some (.slice ua xp.length uc) := by rw [rw'.cellAt pre.length (by omega)]; exact hu1
    have kw := h2.kept BW14.out NE.out.1
    have d2 : X.cell? ⟨w11.heap.size, 0, none⟩ = some (.slice (some ⟨gw, 0, none⟩) K wc) := by simp [World.cell?, kw]
    have d3 : X.cell? ⟨w13.heap.size, 0, none⟩ = some (.int .i64 (pre.length : Nat)) := by simp [World.cell?, h2.box]
    have j1 : (pre.length : Int) < (K : Int) := by omega
    have j2 : ¬ K ≤ pre.length := by omega
    have j4 : pre.length < K := hlt
    have j3 : decide (K ≤ pre.length) = false := decide_eq_false j2
    have H2 : Hid (FrS w w14 X w13.heap.size pre.length) := h2
    have HO : Hid (X.ownsRow w14.heap.size 5 1 (.slice xa xp.length xc) xp.length (cellsOf xp)) := ho
    have HPL : Hid (xp.length ≤ 65536) := hpl
    have HLT : Hid (pre.length < K) := hlt
    clear h1 h2 hg hp hpl ho hlt hu1 hu2 ru su sx rw' kw
    simp only [List.setIfInBounds_toArray, List.set_cons_zero, List.set_cons_succ]
    gi_wp2_with fail
    refine round_quiet l' (by kernel_rfl) (by kernel_rfl) (by kernel_rfl) ?_
    repeat (quiet_step_in (fail))
    refine wpQuietIn_nil ?_
    intro _ hw'
    obtain ⟨nq, rfl⟩ := hw'
    have SX := spoil_x w14.heap.size (.slice xa xp.length xc) xp.length (cellsOf xp) (X.drewN nq) HO.out (Nat.le_trans H2.out.grown.size (Nat.le_refl _)) (by have := HPL.out; omega)
    clear t1 t2 d1 d2 d3 j1 j2 j3 j4
    gi_wp2_with fail
    refine ⟨trivial, ((callsIn_wide.2 SX).inRound l').mono ?_⟩
    clear SX
    rintro e X2 ⟨⟨_, rfl⟩, g2, _⟩
    have g2' : X.grownBy X2 (Value.slice xa xp.length xc).ownBlock := ⟨g2.os, g2.tape, g2.output, g2.size, g2.block⟩
    have hn := H2.out.low ((Below.refl _ X).grown g2' H2.out.grown.size (fun k e => (World.ownsRow.lt HO.out k e).1))
    have d3 : X2.cell? ⟨w13.heap.size, 0, none⟩ = some (.int .i64 (pre.length : Nat)) := by simp [World.cell?, hn.box]
    have d4 : X2.frozen? ⟨w13.heap.size, 0, none⟩ = false := by simp [World.frozen?, hn.box]
    have hw1 : IntKind.i64.wrap ((pre.length : Int) + 1) = ((pre.length + 1 : Nat) : Int) := by rw [IntKind.wrap_i64]; have := HLT.out; have := HKL.out; have := HM.out; omega
    have NX : Hid (FrS w w14 (X2.setCell ⟨w13.heap.size, 0, none⟩ (.int .i64 ((pre.length + 1 : Nat) : Int))) w13.heap.size (pre.length + 1)) := H2.out.next HO.out g2' _
    have KX : Hid (KeepsFrom w14.heap.size X (X2.setCell ⟨w13.heap.size, 0, none⟩ (.int .i64 ((pre.length + 1 : Nat) : Int))) ∧ Kc w14.heap.size w14.heap.size X (X2.setCell ⟨w13.heap.size, 0, none⟩ (.int .i64 ((pre.length + 1 : Nat) : Int)))) := H2.out.keeps HT.out HO.out g2' _
    clear g2 g2' hn
    gi_wp2
    have e1 : ((pre.length : Int) + 1) = ((pre.length + 1 : Nat) : Int) := by simp
    rw [e1]
    refine ⟨KX.out.1, KX.out.2, ?_, ?_⟩
    · rw [List.length_append]; exact HLT.out
    · rw [List.length_append]; exact NX.out
  case done =>
    rintro D xs X hD hS ⟨h1, h2⟩ hK
    have hlen : xs.length = K := by
      rcases Nat.lt_or_ge xs.length K with h | h
      · exact absurd (HGo.out _ h) hS
      · omega
    rw [hlen] at h2
    have kw := h2.kept BW14.out NE.out.1
    have kr := h2.kept R14.out NE.out.2
    have d2 : X.cell? ⟨w11.heap.size, 0, none⟩ = some (.slice wa K wc) := by simp [World.cell?, kw]
    have d3 : X.cell? ⟨w13.heap.size, 0, none⟩ = some (.int .i64 (K : Nat)) := by simp [World.cell?, h2.box]
    have KP := kept_any g c l.length l a cap X w0.heap.size (h2.row O14.out (by decide)) (HS.out.below h2.all) (by have := HM.out; omega)
    have KN := known_any X (HT.out.below h2.all HT.out.size)
    have R2 : Hid (X.heap[w.heap.size]? = some (.cells #[.bool false] 4 (0, 0))) := kr
    have BX : Hid (Below w.heap.size w X) := h2.all
    have LX : Hid (w.heap.size < X.heap.size) := (Array.getElem?_eq_some_iff.1 kr).1
    have HD : Hid (w.heap.size + 1 ≤ D) := by
      show _ ≤ D
      have := (Array.getElem?_eq_some_iff.1 R14.out).1
      omega
    have HKD : Hid (X.heap[D]? = some (.deferred (some []))) := hK
    clear h1 h2 hS hK hlen kw kr hD
    go_wp2_with fail
    refine KP.mono ?_
    clear KP
    rintro e X1 ⟨rfl, rfl⟩
    go_wp2_with fail
    refine KN.mono ?_
    clear KN
    rintro e Y ⟨rfl, bY⟩
    have R3 : Hid (Y.heap[w.heap.size]? = some (.cells #[.bool false] 4 (0, 0))) := (bY.block _ LX.out).trans R2.out
    have c2 : Y.cell? ⟨w.heap.size, 0, none⟩ = some (.bool false) := by simp [World.cell?, R3.out]
    have f2 : Y.frozen? ⟨w.heap.size, 0, none⟩ = false := by simp [World.frozen?, R3.out]
    have ZZ : Hid (Below w.heap.size w (Y.setCell ⟨w.heap.size, 0, none⟩ (.bool true))) := (BX.out.trans (bY.mono BX.out.size)).setCell (p := ⟨w.heap.size, 0, none⟩) (Nat.le_refl _) _
    have Q2 : Hid ((Y.setCell ⟨w.heap.size, 0, none⟩ (.bool true)).cell? ⟨w.heap.size, 0, none⟩ = some (.bool true)) := World.cell?_setCell_same' _ _ _ (by rw [c2]; rfl)
    have KD : Hid ((Y.setCell ⟨w.heap.size, 0, none⟩ (.bool true)).heap[D]? = some (.deferred (some []))) := by
      show (Y.setCell ⟨w.heap.size, 0, none⟩ (.bool true)).heap[D]? = _
      rw [Below.heap_setCell _ _ _ D (fun e => by have e' : D = w.heap.size := (by simpa using e); have := HD.out; omega), bY.block D (Array.getElem?_eq_some_iff.1 HKD.out).1]
      exact HKD.out
    clear bY d2 d3
    go_wp2
    refine ⟨by simp, .inl ⟨_, _, rfl, run_takeDeferred KD.out, ?_⟩⟩
    refine ⟨.bool true, results_bool rfl _ _ w.heap.size true rfl ?_, rfl, ?_⟩
    · exact cell_kept Q2.out (grownBy_putObj' _ D (.deferred none)) (fun r e => by cases e; exact ⟨_, KD.out, rfl⟩)
    · exact ZZ.out.grown (grownBy_putObj' _ D (.deferred none)) ZZ.out.size (fun k e => by cases e; have := HD.out; omega)
end Go.Proofs.YtpnnbkhlbohfbaaDoor
