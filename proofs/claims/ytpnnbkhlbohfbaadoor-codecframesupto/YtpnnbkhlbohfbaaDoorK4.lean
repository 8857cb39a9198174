/- What addressed and Unmsg do. -/
import Derived.Test.YtpnnbkhlbohfbaaDoorUncut
import Derived.Laws.ResultCell
namespace Go.Proofs.YtpnnbkhlbohfbaaDoor
open Go.RowKit Cod
set_option linter.unusedVariables false

/-- Whether a message is of a kind, a group and machines that there can be. -/
def HeadD.addr (h : HeadD) : Prop := 1 ≤ h.kind ∧ h.kind ≤ 6 ∧ 0 ≤ h.group ∧ h.group ≤ 3 ∧ (0 ≤ h.src ∧ h.src < 5) ∧ 0 ≤ h.dst ∧ h.dst < 5
theorem isNode_any (n : Int) (w : World) : Calls Tryd.prog 54 #[.int .i64 n] w fun e w' => e = .returned (.bool (decide (0 ≤ n ∧ n < 5))) ∧ w' = w := by
  by_cases h1 : (0 : Int) ≤ n
  · by_cases h2 : n < 5
    · have e : decide (0 ≤ n ∧ n < 5) = true := decide_eq_true ⟨h1, h2⟩
      rw [e]
      go_enter Tryd.func54, Tryd.ntmps54
      go_wp2
      go_ret
      exact ⟨rfl, rfl⟩
    · have e : decide (0 ≤ n ∧ n < 5) = false := decide_eq_false (fun h => h2 h.2)
      rw [e]
      go_enter Tryd.func54, Tryd.ntmps54
      go_wp2
      go_ret
      exact ⟨rfl, rfl⟩
  · have e : decide (0 ≤ n ∧ n < 5) = false := decide_eq_false (fun h => h1 h.1)
    rw [e]
    go_enter Tryd.func54, Tryd.ntmps54
    go_wp2
    go_ret
    exact ⟨rfl, rfl⟩
/-- What addressed answers. -/
def AddrTold (w w' : World) (h : HeadD) (e : Ending) : Prop := ∃ q : Bool, e = .returned (.bool q) ∧ (q = true ↔ h.addr) ∧ Below w.heap.size w w'
set_option maxRecDepth 100000 in
set_option maxHeartbeats 1600000 in
theorem addressed_any (h : HeadD) (ev dv : Value) (w : World) : Calls Tryd.prog 25 #[h.val ev dv] w fun e w' => AddrTold w w' h e := by
  generalize hw1 : w.alloc (.cells #[.int .i64 h.kind, .int .i64 h.group, .int .i64 h.src, .int .i64 h.dst, .int .i64 h.term, .int .i64 h.index, .int .i64 h.logTerm, .int .i64 h.commit, .bool h.ok, ev, dv] 29) = w1
  have b1 : Below w.heap.size w w1 := by rw [← hw1]; exact (Below.refl _ w).alloc (Nat.le_refl _) _
  have hh : w1.heap[w.heap.size]? = some (.cells #[.int .i64 h.kind, .int .i64 h.group, .int .i64 h.src, .int .i64 h.dst, .int .i64 h.term, .int .i64 h.index, .int .i64 h.logTerm, .int .i64 h.commit, .bool h.ok, ev, dv] 29 (0, 0)) := by rw [← hw1]; exact heap_alloc_new w _
  have c0 : w1.cell? ⟨w.heap.size, 0, none⟩ = some (.int .i64 h.kind) := by simp [World.cell?, hh]
  have c1 : w1.cell? ⟨w.heap.size, 1, none⟩ = some (.int .i64 h.group) := by simp [World.cell?, hh]
  have c2 : w1.cell? ⟨w.heap.size, 2, none⟩ = some (.int .i64 h.src) := by simp [World.cell?, hh]
  have c3 : w1.cell? ⟨w.heap.size, 3, none⟩ = some (.int .i64 h.dst) := by simp [World.cell?, hh]
  have HB : Hid (Below w.heap.size w w1) := b1
  have HW : Hid _ := hw1
  have HD : Hid (h.addr ↔ 1 ≤ h.kind ∧ h.kind ≤ 6 ∧ 0 ≤ h.group ∧ h.group ≤ 3 ∧ (0 ≤ h.src ∧ h.src < 5) ∧ 0 ≤ h.dst ∧ h.dst < 5) := Iff.rfl
  show Calls Tryd.prog 25 #[.agg #[.int .i64 h.kind, .int .i64 h.group, .int .i64 h.src, .int .i64 h.dst, .int .i64 h.term, .int .i64 h.index, .int .i64 h.logTerm, .int .i64 h.commit, .bool h.ok, ev, dv]] w _
  clear hh b1 hw1
  have N5 := isNode_any h.src w1
  have N6 := isNode_any h.dst w1
  generalize h.kind = k0 at *
  generalize h.group = k1 at *
  generalize h.src = k2 at *
  generalize h.dst = k3 at *
  by_cases h0 : (1 : Int) ≤ k0
  case neg =>
    clear N5 N6
    go_enter Tryd.func25, Tryd.ntmps25
    go_wp2
    go_ret
    rw [HW.out]
    refine ⟨_, rfl, ?_, HB.out⟩
    rw [HD.out]
    simp
    omega
  by_cases h1 : k0 ≤ 6
  case neg =>
    clear N5 N6
    go_enter Tryd.func25, Tryd.ntmps25
    go_wp2
    go_ret
    rw [HW.out]
    refine ⟨_, rfl, ?_, HB.out⟩
    rw [HD.out]
    simp
    omega
  by_cases h2 : (0 : Int) ≤ k1
  case neg =>
    clear N5 N6
    go_enter Tryd.func25, Tryd.ntmps25
    go_wp2
    go_ret
    rw [HW.out]
    refine ⟨_, rfl, ?_, HB.out⟩
    rw [HD.out]
    simp
    omega
  by_cases h3 : k1 ≤ 3
  case neg =>
    clear N5 N6
    go_enter Tryd.func25, Tryd.ntmps25
    go_wp2
    go_ret
    rw [HW.out]
    refine ⟨_, rfl, ?_, HB.out⟩
    rw [HD.out]
    simp
    omega
  by_cases h5 : 0 ≤ k2 ∧ k2 < 5
  case neg =>
    rw [decide_eq_false h5] at N5
    clear N6
    go_enter Tryd.func25, Tryd.ntmps25
    go_wp2_with fail
    rw [HW.out]
    refine N5.mono ?_
    rintro e w' ⟨rfl, rfl⟩
    go_wp2
    go_ret
    refine ⟨_, rfl, ?_, HB.out⟩
    rw [HD.out]
    simp
    omega
  rw [decide_eq_true h5] at N5
  by_cases h6 : 0 ≤ k3 ∧ k3 < 5
  case neg =>
    rw [decide_eq_false h6] at N6
    go_enter Tryd.func25, Tryd.ntmps25
    go_wp2_with fail
    rw [HW.out]
    refine N5.mono ?_
    rintro e w' ⟨rfl, rfl⟩
    go_wp2_with fail
    refine N6.mono ?_
    rintro e w' ⟨rfl, rfl⟩
    go_wp2
    go_ret
    refine ⟨_, rfl, ?_, HB.out⟩
    rw [HD.out]
    simp
    omega
  rw [decide_eq_true h6] at N6
  go_enter Tryd.func25, Tryd.ntmps25
  go_wp2_with fail
  rw [HW.out]
  refine N5.mono ?_
  rintro e w' ⟨rfl, rfl⟩
  go_wp2_with fail
  refine N6.mono ?_
  rintro e w' ⟨rfl, rfl⟩
  go_wp2
  go_ret
  refine ⟨_, rfl, ?_, HB.out⟩
  rw [HD.out]
  simp
  omega
end Go.Proofs.YtpnnbkhlbohfbaaDoor

namespace Go.Proofs.YtpnnbkhlbohfbaaDoor
open Go.RowKit Cod
set_option linter.unusedVariables false

def zeroM : Array Value := #[.int .i64 0, .int .i64 0, .int .i64 0, .int .i64 0, .int .i64 0, .int .i64 0, .int .i64 0, .int .i64 0, .bool false, .slice none 0 0, .slice none 0 0]
/-- A head with entries and data, as cells. -/
def HeadD.cells (h : HeadD) (ev dv : Value) : Array Value := #[.int .i64 h.kind, .int .i64 h.group, .int .i64 h.src, .int .i64 h.dst, .int .i64 h.term, .int .i64 h.index, .int .i64 h.logTerm, .int .i64 h.commit, .bool h.ok, ev, dv]
/-- While a message is read: the Reader, the answer's box, the message's box. -/
structure UnF (w0 w : World) (R M : Nat) (l : List (BitVec 8)) (at_ why : Nat) (cs : Array Value) : Prop where
  rdr : Rdr w R l at_ why
  res : w.heap[w0.heap.size]? = some (.cells zeroM 29 (0, 0))
  box : w.heap[M]? = some (.cells cs 29 (0, 0))
  below : Below w0.heap.size w0 w
  lR : w0.heap.size < R
  lM : R < M
theorem UnF.call {w0 w w' : World} {R M : Nat} {l : List (BitVec 8)} {at_ why at' why' : Nat} {cs : Array Value} (h : UnF w0 w R M l at_ why cs) (hr : Rdr w' R l at' why') (hg : w.grownBy w' (some R)) : UnF w0 w' R M l at' why' cs := by
  have l1 := h.lR
  have l2 := h.lM
  have s1 := (Array.getElem?_eq_some_iff.1 h.res).1
  have s2 := (Array.getElem?_eq_some_iff.1 h.box).1
  exact ⟨hr, by rw [hg.block _ s1 (fun e => by have := Option.some.inj e; omega)]; exact h.res, by rw [hg.block _ s2 (fun e => by have := Option.some.inj e; omega)]; exact h.box, below_grown h.below hg h.below.size (by omega), l1, l2⟩
theorem UnF.grow {w0 w w' : World} {R M : Nat} {l : List (BitVec 8)} {at_ why : Nat} {cs : Array Value} {row : Option Nat} (h : UnF w0 w R M l at_ why cs) (hg : w.grownBy w' row) (hr : ∀ g, row = some g → M < g) : UnF w0 w' R M l at_ why cs := by
  have l1 := h.lR
  have l2 := h.lM
  have s1 := (Array.getElem?_eq_some_iff.1 h.res).1
  have s2 := (Array.getElem?_eq_some_iff.1 h.box).1
  exact ⟨h.rdr.grown hg (fun g e => by have := hr g e; omega), by rw [hg.block _ s1 (fun e => by have := hr _ e.symm; omega)]; exact h.res, by rw [hg.block _ s2 (fun e => by have := hr _ e.symm; omega)]; exact h.box, h.below.grown hg h.below.size (fun k e => by have := hr k e; omega), l1, l2⟩
theorem UnF.alloc {w0 w : World} {R M : Nat} {l : List (BitVec 8)} {at_ why : Nat} {cs : Array Value} (h : UnF w0 w R M l at_ why cs) (o : Obj) : UnF w0 (w.alloc o) R M l at_ why cs :=
  h.grow (row := none) (grown_alloc (grown_refl w none) o) (fun g e => by cases e)
theorem UnF.store {w0 w : World} {R M : Nat} {l : List (BitVec 8)} {at_ why : Nat} {cs : Array Value} (h : UnF w0 w R M l at_ why cs) (i : Nat) (v : Value) : UnF w0 (w.setCell ⟨M, i, none⟩ v) R M l at_ why (cs.setIfInBounds i v) := by
  have l1 := h.lR
  have l2 := h.lM
  exact ⟨h.rdr.set _ v l2, by rw [Below.heap_setCell _ _ _ _ (by show ¬ _; simp; omega)]; exact h.res, set_block h.box i v, h.below.setCell (by show w0.heap.size ≤ M; omega) v, l1, l2⟩
theorem UnF.drewN {w0 w : World} {R M : Nat} {l : List (BitVec 8)} {at_ why : Nat} {cs : Array Value} (h : UnF w0 w R M l at_ why cs) (n : Nat) : UnF w0 (w.drewN n) R M l at_ why cs :=
  ⟨h.rdr, h.res, h.box, below_drewN' h.below n, h.lR, h.lM⟩
theorem UnF.cell {w0 w : World} {R M : Nat} {l : List (BitVec 8)} {at_ why : Nat} {cs : Array Value} (h : UnF w0 w R M l at_ why cs) (i : Nat) : w.cell? ⟨M, i, none⟩ = cs[i]? ∧ w.frozen? ⟨M, i, none⟩ = false := by
  constructor
  · simp [World.cell?, h.box]
  · simp [World.frozen?, h.box]
/-- Entries that were read: what they are, and the value of their bytes. -/
abbrev EntV := (Int × List (BitVec 8)) × Value
def entCells (es : List EntV) : List Value := es.flatMap fun e => [.int .i64 e.1.1, e.2]
theorem entCells_snoc (es : List EntV) (e : EntV) : entCells (es ++ [e]) = entCells es ++ [.int .i64 e.1.1, e.2] := by simp [entCells]
theorem entCells_get : ∀ (es : List EntV) (j : Nat) (hj : j < es.length), (entCells es)[j * 2]? = some (.int .i64 es[j].1.1) ∧ (entCells es)[j * 2 + 1]? = some es[j].2
  | r :: rest, 0, _ => by simp [entCells]
  | r :: rest, j + 1, hj => by
    have ih := entCells_get rest j (by simpa using hj)
    have e1 : (j + 1) * 2 = j * 2 + 1 + 1 := by omega
    simp only [entCells, List.flatMap_cons, List.cons_append, List.nil_append, e1, List.getElem?_cons_succ, List.getElem_cons_succ] at ih ⊢
    exact ih
/-- The bytes of an entry lie in memory of its own. -/
def EOwn (w : World) (base : Nat) (e : EntV) : Prop := e.1.2.length ≤ 65536 ∧ w.ownsRow base 5 1 e.2 e.1.2.length (cellsOf e.1.2)
theorem EOwn.far {w w' : World} {base R : Nat} {e : EntV} (h : EOwn w base e) (hg : w.grownBy w' (some R)) (hR : R < base) : EOwn w' base e := ⟨h.1, owns_far h.2 hg hR⟩
theorem EOwn.alloc {w : World} {base : Nat} {e : EntV} (h : EOwn w base e) (o : Obj) : EOwn (w.alloc o) base e := ⟨h.1, h.2.alloc o⟩
theorem EOwn.drew {w : World} {base : Nat} {e : EntV} (h : EOwn w base e) : EOwn w.drew base e := ⟨h.1, h.2.drew⟩
theorem EOwn.set {w : World} {base : Nat} {e : EntV} (h : EOwn w base e) (a : Addr) (v : Value) (ha : a.block < base) : EOwn (w.setCell a v) base e := ⟨h.1, owns_set h.2 a v ha⟩
theorem EOwn.mono {w : World} {base base' : Nat} {e : EntV} (h : EOwn w base e) (hb : base' ≤ base) : EOwn w base' e := ⟨h.1, owns_mono' h.2 hb⟩
/-- Rows of bytes are as they were where a row of another kind has grown. -/
theorem owns_other {w w' : World} {base base' n k size : Nat} {t : TypeId} {v u : Value} {xs ys : List Value} (h : w.ownsRow base 5 1 v n xs) (hu : w.ownsRow base' t size u k ys) (ht : t ≠ 5) (hg : w.grownBy w' u.ownBlock) : w'.ownsRow base 5 1 v n xs := by
  refine ⟨h.1, h.2.imp id ?_⟩
  rintro ⟨g, cap, cur, e1, e2, e3, e4⟩
  refine ⟨g, cap, cur, e1, e2, ?_, e4⟩
  rw [hg.block g (Array.getElem?_eq_some_iff.1 e3).1 (fun e => ?_)]
  · exact e3
  · rcases hu.2 with ⟨e5, _⟩ | ⟨g', cap', cur', e5, _, e6, _⟩
    · rw [e5] at e
      cases e
    · rw [e5] at e
      have : g = g' := by simpa [Value.ownBlock] using e
      subst this
      rw [e3] at e6
      injection e6 with e6
      injection e6 with _ e7
      exact ht e7.symm
theorem EOwn.other {w w' : World} {base base' k size : Nat} {t : TypeId} {e : EntV} {u : Value} {ys : List Value} (h : EOwn w base e) (hu : w.ownsRow base' t size u k ys) (ht : t ≠ 5) (hg : w.grownBy w' u.ownBlock) : EOwn w' base e := ⟨h.1, owns_other h.2 hu ht hg⟩
theorem info_entry : (Tryd.prog.info? 55).map (fun i => (i.zero, i.size, i.bytes)) = some (some (.agg #[.int .i64 0, .slice none 0 0]), 2, 32) := by kernel_rfl
/-- Entries that lie in memory of their own are entries. -/
theorem ents_owned {w : World} {base n : Nat} {a : Option Addr} {k cap : Nat} {es : List EntV} (h : w.ownsRow base 55 2 (.slice a k cap) n (entCells es)) (hl : es.length = n) (hE : ∀ e ∈ es, EOwn w base e) : EntsAt w a k (es.map Prod.fst) ∧ k = n := by
  rcases h.2 with ⟨e, rfl⟩ | ⟨g, c, cur, e, hg, hcell, hnc, hcm, hcs, htake⟩
  · cases e
    exact ⟨⟨by simpa using hl.symm, .inl rfl⟩, rfl⟩
  · cases e
    refine ⟨⟨by simpa using hl.symm, ?_⟩, rfl⟩
    by_cases h0 : n = 0
    · exact .inl h0
    · refine .inr ⟨g, 0, rfl, fun j hj => ?_⟩
      have hj' : j < es.length := by simpa using hj
      obtain ⟨h1, h2⟩ := entCells_get es j hj'
      rw [← htake] at h1 h2
      rw [List.getElem?_take] at h1 h2
      rw [if_pos (by omega)] at h1
      rw [if_pos (by omega)] at h2
      have hO := hE es[j] (List.getElem_mem hj')
      obtain ⟨a', c', e1, s1, n1, _⟩ := owned_seen hO.2 (by have := hO.1; unfold maxLen; omega)
      simp only [World.cell?, hcell, Nat.zero_add]
      refine ⟨by simpa using h1, es[j].2, by simpa using h2, ?_⟩
      simp only [List.getElem_map]
      exact ⟨a', c', e1, s1, n1⟩
/-- What Unmsg answers. -/
def UnTold (w w' : World) (l : List (BitVec 8)) (e : Ending) : Prop :=
  (1048576 < l.length ∧ e = .returned (.tuple #[.agg zeroM, .int .i64 3])) ∨
  (l.length ≤ 1048576 ∧ unEnd l ≠ 0 ∧ e = .returned (.tuple #[.agg zeroM, .int .i64 (unEnd l)])) ∨
  (l.length ≤ 1048576 ∧ unEnd l = 0 ∧ ¬ (rHdV l 0 0).addr ∧ e = .returned (.tuple #[.agg zeroM, .int .i64 1])) ∨
  (l.length ≤ 1048576 ∧ unEnd l = 0 ∧ (rHdV l 0 0).addr ∧ ∃ (es : List EntV) (va : Option Addr) (vn vc : Nat) (dv : Value), es.map Prod.fst = (unE l).1 ∧ e = .returned (.tuple #[.agg ((rHdV l 0 0).cells (.slice va vn vc) dv), .int .i64 0]) ∧ w'.ownsRow w.heap.size 55 2 (.slice va vn vc) es.length (entCells es) ∧ (∀ e ∈ es, EOwn w' w.heap.size e) ∧ (unD l).1.length ≤ 65536 ∧ w'.ownsRow w.heap.size 5 1 dv (unD l).1.length (cellsOf (unD l).1))
end Go.Proofs.YtpnnbkhlbohfbaaDoor
