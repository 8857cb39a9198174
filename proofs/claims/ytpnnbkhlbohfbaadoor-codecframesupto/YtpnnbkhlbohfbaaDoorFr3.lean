/- Frames, and the law's loop over them: what is kept. -/
import Derived.Test.YtpnnbkhlbohfbaaDoorStMath
import Derived.Test.YtpnnbkhlbohfbaaDoorCounts
import Derived.Test.YtpnnbkhlbohfbaaDoorSteps
import Derived.Test.YtpnnbkhlbohfbaaDoorR1
namespace Go.Proofs.YtpnnbkhlbohfbaaDoor
open Go.RowKit Go.Shelf Cod
set_option linter.unusedVariables false

set_option maxHeartbeats 400000 in
/-- Frames: a copy of the bytes in a box, captured. -/
theorem frames_any (a : Option Addr) (len cap : Nat) (l : List (BitVec 8)) (w : World) (h : Seen w a len l) (hnil : a = none → cap = 0) (hm : len ≤ 140737488355328) :
    Calls Tryd.prog 13 #[.slice a len cap] w fun e w' => ∃ B a' cap', e = .returned (.func (.func 34) #[] #[.pointer (some ⟨B, 0, none⟩)]) ∧ Below w.heap.size w w' ∧ w'.cell? ⟨B, 0, none⟩ = some (.slice a' len cap') ∧
      Seen w' a' len l ∧ (a' = none → cap' = 0) ∧ len ≤ cap' ∧ (∀ y, a' = some y → y.block < w'.heap.size) := by
  have HC := clone_any a len cap l w h hnil hm
  have HM : Hid (len ≤ 140737488355328) := hm
  clear h hnil hm
  go_enter Tryd.func13, Tryd.ntmps13
  go_wp2_with fail
  refine HC.mono ?_
  rintro e w1 ⟨v, rfl, o, b⟩
  obtain ⟨a', cap', rfl, s1, m1, k1⟩ := owned_seen o (by have := HM.out; unfold maxLen; omega)
  have hlo : ∀ y, a' = some y → y.block < w1.heap.size := fun y e => by
    rcases o.2 with ⟨e1, _⟩ | ⟨g, c, cur, e1, hb, hg, _⟩
    · cases e1; cases e
    · cases e1; cases e; exact (Array.getElem?_eq_some_iff.1 hg).1
  have HL : Hid (∀ y, a' = some y → y.block < w1.heap.size) := hlo
  have S1 : Hid (Seen w1 a' len l) := s1
  have M1 : Hid (a' = none → cap' = 0) := m1
  have K1 : Hid (len ≤ cap') := k1
  have B1 : Hid (Below w.heap.size w w1) := b
  clear o s1 m1 k1 b hlo HC
  go_wp2
  go_ret
  have bA : Below w1.heap.size w1 (w1.alloc (.cells #[.slice a' len cap'] 22)) := (Below.refl _ w1).alloc (Nat.le_refl _) _
  refine ⟨w1.heap.size, a', cap', rfl, B1.out.alloc B1.out.size _, ?_, S1.out.below bA, M1.out, K1.out, fun y e => Nat.lt_of_lt_of_le (HL.out y e) bA.size⟩
  simp only [World.cell?, heap_alloc_new]
  rfl
theorem frames1_seq (n B0 B1 Bk : Nat) (a : Option Addr) (len cap : Nat) (l : List (BitVec 8)) (w : World) (hT : Tabs w) (hb0 : B0 ≤ w.heap.size) (hb1 : B1 ≤ w.heap.size) (hbox : w.cell? ⟨Bk, 0, none⟩ = some (.slice a len cap)) (hs : Seen w a len l) (hnil : a = none → cap = 0) (hk : len ≤ cap) (hm : len ≤ 140737488355328) (hlo : ∀ y, a = some y → y.block < B1) :
    SeqR n Tryd.prog 34 #[.pointer (some ⟨Bk, 0, none⟩)] encG (Kc B0 B1) (RG B1 l) (fun xs => ¬ good l xs.length) (fun _ => True) w := fun L J Jx W hW hJ hJx hY h0 =>
  frames1_in n L B0 B1 Bk a len cap l J Jx W hJ hJx hY (hT.below hW hT.size) (Nat.le_trans hb0 hW.size) (Nat.le_trans hb1 hW.size) ((hW.cell (p := ⟨Bk, 0, none⟩) (World.block_lt_of_cell? w _ hbox)).trans hbox) (hs.below hW) hnil hk hm hlo h0
/-- Whatever is no row of type e is kept. -/
def KeepN (e : TypeId) (w w' : World) : Prop := ∀ (k : Nat) (cs : Array Value) (t : TypeId) (z : Nat × Nat), w.heap[k]? = some (Obj.cells cs t z) → t ≠ e → w'.heap[k]? = some (Obj.cells cs t z)
theorem KeepN.of_below {e : TypeId} {w w' : World} (h : Below w.heap.size w w') : KeepN e w w' := fun k cs t z hk _ => by rw [h.block k (Array.getElem?_eq_some_iff.1 hk).1]; exact hk
theorem KeepN.of_grown {e : TypeId} {base n : Nat} {v : Value} {xs : List Value} {w w' : World} (h : w.ownsRow base e 1 v n xs) (g : w.grownBy w' v.ownBlock) : KeepN e w w' := fun k cs t z hk ht => by
  rw [g.block k (Array.getElem?_eq_some_iff.1 hk).1 ?_]
  · exact hk
  · rcases h.2 with ⟨rfl, _⟩ | ⟨g', c, cur, rfl, hb, hg, _⟩
    · simp [Value.ownBlock]
    · intro hc
      have : k = g' := by simpa [Value.ownBlock] using hc
      subst this
      rw [hg] at hk
      cases hk
      exact ht rfl
theorem KeepN.tr {e : TypeId} {a b c : World} (h : KeepN e a b) (k : KeepN e b c) : KeepN e a c := fun i cs t z hi ht => k i cs t z (h i cs t z hi ht) ht
theorem owns_keepN {e e' : TypeId} {base n : Nat} {v : Value} {xs : List Value} {w w' : World} (h : w.ownsRow base e' 1 v n xs) (k : KeepN e w w') (he : e' ≠ e) : w'.ownsRow base e' 1 v n xs := by
  refine ⟨h.1, h.2.imp id ?_⟩
  rintro ⟨g, cap, cur, e1, hb, hg, hr⟩
  exact ⟨g, cap, cur, e1, hb, k _ _ _ _ hg he, hr⟩
theorem info3 : (Tryd.prog.info? 3).map (fun i => (i.zero, i.size, i.bytes)) = some (some (.int .i64 0), 1, 8) := by kernel_rfl
theorem owns_put {w : World} {base n size : Nat} {e : TypeId} {v : Value} {xs : List Value} (h : w.ownsRow base e size v n xs) (a : Addr) (u : Value) (ha : a.block < base) : (w.setCell a u).ownsRow base e size v n xs := by
  refine ⟨h.1, h.2.imp id ?_⟩
  rintro ⟨g, cap, cur, e1, e2, e3, e4⟩
  refine ⟨g, cap, cur, e1, e2, ?_, e4⟩
  rw [Below.heap_setCell _ _ _ g (fun e => by omega)]
  exact e3
/-- Slices of bytes in memory, one behind the other. -/
def LAt (w : World) (a : Option Addr) (n : Nat) (ps : List (List (BitVec 8))) : Prop :=
  n = ps.length ∧ (n = 0 ∨ ∃ b off, a = some ⟨b, off, none⟩ ∧ ∀ j (hj : j < ps.length), ∃ a' c', w.cell? ⟨b, off + j, none⟩ = some (.slice a' ps[j].length c') ∧ Seen w a' ps[j].length ps[j] ∧ (a' = none → c' = 0))
theorem LAt.below {w w' : World} {a : Option Addr} {n : Nat} {ps : List (List (BitVec 8))} (h : LAt w a n ps) (hb : Below w.heap.size w w') : LAt w' a n ps := by
  obtain ⟨h1, h2⟩ := h
  refine ⟨h1, h2.imp id ?_⟩
  rintro ⟨b, off, rfl, hc⟩
  refine ⟨b, off, rfl, fun j hj => ?_⟩
  obtain ⟨a', c', e1, e2, e3⟩ := hc j hj
  exact ⟨a', c', by rw [hb.cell (p := ⟨b, off + j, none⟩) (World.block_lt_of_cell? w _ e1)]; exact e1, e2.below hb, e3⟩
/-- A result that stands in a cell: a truth. -/
theorem results_bool {fn : Func} {p : Tmp} (h : fn.results = #[.cell p 4]) (tmps : Array Value) (w : World) (g : Nat) (b : Bool) (hp : tmps.getD p undef = .pointer (some ⟨g, 0, none⟩)) (hc : w.cell? ⟨g, 0, none⟩ = some (.bool b)) :
    (results fn tmps).run Tryd.prog w = .ok (.bool b) w := by
  have hp' : tmps[p]?.getD undef = .pointer (some ⟨g, 0, none⟩) := by simpa using hp
  simp only [results, h]
  simp [hp', asAddr]
  go_simp
/-- A number's box is written: what a round keeps. -/
theorem kc_box {B0 B1 Bn : Nat} {X : World} {z z' : Int} (hc : X.cell? ⟨Bn, 0, none⟩ = some (.int .i64 z)) (hb : Bn < B0) (q : Nat) : Kc B0 B1 X ((X.drewN q).setCell ⟨Bn, 0, none⟩ (.int .i64 z')) := by
  have one : ∀ (p : Addr) (v : Value), X.cell? p = some v → v ≠ .int .i64 z → ((X.drewN q).setCell ⟨Bn, 0, none⟩ (.int .i64 z')).cell? p = some v := fun p v hp hv => by
    rw [cell_set_far _ _ _ _ (fun e => hv (by rw [← e] at hp; rw [hp] at hc; exact Option.some.inj hc))]
    exact hp
  exact ⟨fun b off x _ hx => one _ _ hx (by simp), fun k cs t z _ hk _ => by rw [Below.heap_setCell _ _ _ k (fun e => by simp only at e; omega)]; exact hk, fun t => ⟨fun i hi => one _ _ (t.1 i hi) (by simp), fun i hi => one _ _ (t.2 i hi) (by simp)⟩⟩
/-- Only what goes on. -/
def onward (Q : Exit → Act → World → Prop) : Exit → Act → World → Prop
  | .normal, a, w => Q .normal a w
  | _, _, _ => False
/-- A function is not nil. -/
theorem seq_some_in (w : World) (d : Nat) (f : Fn) (a b : Array Value) : (Op.equalIn (d + 1) 38 (.func f a b) .nilFunc).run Tryd.prog w = .ok false w := by
  simp [Op.equalIn, run_underlying Tryd.underlying38]
theorem seq_some (w : World) (f : Fn) (a b : Array Value) : (binOp .eql 38 (.func f a b) .nilFunc).run Tryd.prog w = .ok (.bool false) w := by
  simp only [binOp]
  simp [Op.equal, Op.maxDepth, seq_some_in w 9999 f a b]
theorem onward_wp {P : Program} {c : Code} {Q : Exit → Act → World → Prop} {a : Act} {w : World} (h : c.wp P (onward Q) a w) : c.wp P Q a w :=
  wp_mono h (fun e a w h => by cases e <;> first | exact h | exact h.elim)
section
variable {P : Program} {ops : Array Oper} {Q : Exit → Act → World → Prop} {md : Region.Mode} {S : World → Prop}
/-- An operation that is passed by. -/
theorem take_skip {i : Nat} {oi : Oper} {fuel : Nat} {listed : Array Bool} {a : Act} {w : World} (hi : ops[i]? = some oi)
    (hs : Region.noSelect ops = true) (hf : Region.free md ops listed i = true) (hr : (Region.ready md ops listed).contains i = true)
    (hQ : ∀ c a w, Q (.panic c) (a.put oi.dst undef) w → Q (.panic c) a w) (hw : Region.wanted oi (yielded ops a.tmps) = false) (hS : S w)
    (h : wpAnyH P md ops Q S fuel (listed.setIfInBounds i true) (a.put oi.dst undef) w) : wpAnyH P md ops Q S (fuel + 1) listed a w :=
  wpAnyH_take hi hs hf hr hQ (.inr ⟨hw, rfl⟩) hS h
/-- A store that comes last. -/
theorem take_store {i : Nat} {oi : Oper} {fuel : Nat} {listed : Array Bool} {a : Act} {w w' : World} (hi : ops[i]? = some oi) (hr : Region.ready md ops listed = [i]) (hw : Region.wanted oi (yielded ops a.tmps) = true)
    (hx : (execOp a.eval oi).run P w = .ok .skip w') (hS : S w') (h : wpAnyH P md ops Q S fuel (listed.setIfInBounds i true) (a.put oi.dst undef) w') : wpAnyH P md ops Q S (fuel + 1) listed a w := by
  refine wpAnyH_all (rs := [i]) hr (by simp) (fun j hj => ?_)
  obtain rfl : j = i := by simpa using hj
  unfold wpOp
  simp only [hi, hw, if_true, Oper.wp, hx]
  rw [Oper.upon_skip]
  exact .inl ⟨hS, h⟩
end
/-- What the law's last line reads, and writes. -/
structure Sz (w X : World) (c k Bn ge : Nat) (ps : List (List (BitVec 8))) (ue : Value) (j : Nat) : Prop where
  bel : Below w.heap.size w X
  c1 : X.cell? ⟨w.heap.size + 1, 0, none⟩ = some (.int .i64 c)
  c3 : X.cell? ⟨w.heap.size + 3, 0, none⟩ = some ue
  cn : X.cell? ⟨Bn, 0, none⟩ = some (.int .i64 j)
  ec : ∀ i, i < k → X.cell? ⟨ge, i, none⟩ = some (.int .i64 (offs ps (i + 1) : Nat))
  c2 : ∃ b, X.cell? ⟨w.heap.size + 2, 0, none⟩ = some (.bool b)
  f2 : X.frozen? ⟨w.heap.size + 2, 0, none⟩ = false
theorem Sz.below {w X Y : World} {c k Bn ge : Nat} {ps : List (List (BitVec 8))} {ue : Value} {j : Nat} (h : Sz w X c k Bn ge ps ue j) (b : Below X.heap.size X Y) : Sz w Y c k Bn ge ps ue j := by
  have one : ∀ p v, X.cell? p = some v → Y.cell? p = some v := fun p v hp => by rw [b.cell (p := p) (World.block_lt_of_cell? X _ hp)]; exact hp
  obtain ⟨b2, h2⟩ := h.c2
  refine ⟨h.bel.trans (b.mono h.bel.size), one _ _ h.c1, one _ _ h.c3, one _ _ h.cn, fun i hi => one _ _ (h.ec i hi), ⟨b2, one _ _ h2⟩, ?_⟩
  have hb := b.block (w.heap.size + 2) (World.block_lt_of_cell? X _ h2)
  have hf := h.f2
  unfold World.frozen? at hf ⊢
  rw [show Y.heap[(⟨w.heap.size + 2, 0, none⟩ : Addr).block]? = X.heap[(⟨w.heap.size + 2, 0, none⟩ : Addr).block]? from hb]
  exact hf
theorem Sz.store {w X : World} {c k Bn ge : Nat} {ps : List (List (BitVec 8))} {ue : Value} {j : Nat} (h : Sz w X c k Bn ge ps ue j) (hu : ∀ b, ue ≠ .bool b) (u : Bool) : Sz w (X.setCell ⟨w.heap.size + 2, 0, none⟩ (.bool u)) c k Bn ge ps ue j := by
  obtain ⟨b2, h2⟩ := h.c2
  have one : ∀ p v, X.cell? p = some v → (∀ b, v ≠ .bool b) → (X.setCell ⟨w.heap.size + 2, 0, none⟩ (.bool u)).cell? p = some v := fun p v hp hv => by
    rw [cell_set_far _ _ _ _ (fun e => by rw [← e, h2] at hp; exact hv b2 (Option.some.inj hp).symm)]
    exact hp
  refine ⟨h.bel.setCell (p := ⟨w.heap.size + 2, 0, none⟩) (by show w.heap.size ≤ w.heap.size + 2; omega) _, one _ _ h.c1 (by simp), one _ _ h.c3 hu, one _ _ h.cn (by simp), fun i hi => one _ _ (h.ec i hi) (by simp), ⟨u, World.cell?_setCell_same' _ _ _ (by rw [h2]; rfl)⟩, ?_⟩
  rw [frozen_set]
  exact h.f2
end Go.Proofs.YtpnnbkhlbohfbaaDoor
