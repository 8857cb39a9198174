/- Package journal: Open, where nothing stands behind the records. -/
import Derived.Test.YtikpmaecbfebkaaDoorJStand
import Derived.Test.YtikpmaecbfebkaaDoorJWipe
import Derived.Test.YtikpmaecbfebkaaDoorJRest
import Derived.RangeFuncOwn
namespace Go.Proofs.YtikpmaecbfebkaaDoor
open Go.RowKit Go.Shelf
attribute [local go_sem] Oper.semAt_some
set_option linter.unusedVariables false

/-- All cells are as they were. -/
def Cl (X Y : World) : Prop := ∀ (k : Nat) (c : Array Value) (t : TypeId) (z : Nat × Nat), X.heap[k]? = some (Obj.cells c t z) → Y.heap[k]? = some (Obj.cells c t z)
theorem Cl.put {W : World} {l : Nat} {o : Obj} (o' : Obj) (hl : W.heap[l]? = some o) (hc : o.isCells = false) : Cl W (W.putObj l o') := fun k c t z hk => by
  rw [World.putObj_heap_other (fun e => by rw [e, hl] at hk; cases hk; cases hc)]
  exact hk
theorem Cl.cell {X Y : World} (h : Cl X Y) {b i : Nat} {v : Value} (hc : X.cell? ⟨b, i, none⟩ = some v) : Y.cell? ⟨b, i, none⟩ = some v := by
  obtain ⟨o, ho, hi⟩ := cells_of_cell hc
  cases o with
  | cells c t z => rw [World.cell?_of_block (w := X) (a := ⟨b, i, none⟩) ((h b c t z ho).trans ho.symm)]; exact hc
  | _ => cases hi
theorem Cl.owns {X Y : World} (h : Cl X Y) {base z n : Nat} {t : TypeId} {v : Value} {xs : List Value} (o : X.ownsRow base t z v n xs) : Y.ownsRow base t z v n xs := by
  refine ⟨o.1, o.2.imp id ?_⟩
  rintro ⟨g, c, cur, e, hb, hg, r⟩
  exact ⟨g, c, cur, e, hb, h _ _ _ _ hg, r⟩
theorem Cl.dsk {X Y : World} (h : Cl X Y) {m : DM} {n : Nat} {d : DS} (q : Dsk X m n d) : Dsk Y m n d := ⟨q.ok, h _ _ _ _ q.hd, h.owns q.hi, h.owns q.hn, h.owns q.hw, q.ne⟩
theorem Cl.tabs {X Y : World} (h : Cl X Y) (q : Tabs X) : Tabs Y := ⟨fun i hi => h.cell (q.1 i hi), fun i hi => h.cell (q.2 i hi)⟩
theorem Cl.isRec {X Y : World} (h : Cl X Y) {v : Value} {l : List (BitVec 8)} (q : IsRec X v l) : IsRec Y v l := by
  obtain ⟨g, o, c, e, s, k, cs, z, u⟩ := q
  refine ⟨g, o, c, e, ⟨s.1, s.2.1, s.2.2.imp id ?_⟩, k, cs, z, h _ _ _ _ u⟩
  rintro ⟨b, off, e2, hc⟩
  exact ⟨b, off, e2, fun j hj => h.cell (hc j hj)⟩
theorem Cl.jat {X Y : World} (h : Cl X Y) {J D fr sz st nx : Nat} {dead : Bool} (q : JAt X J D fr sz st nx dead) : JAt Y J D fr sz st nx dead := h _ _ _ _ q
theorem KJ.put {m : DM} {J Bk : Nat} (W : World) (l : Nat) (o o' : Obj) (hl : W.heap[l]? = some o) (hc : o.isCells = false) : KJ m J Bk W (W.putObj l o') := by
  have h := Cl.put o' hl hc
  exact ⟨fun n d q => h.dsk q, fun D fr sz st nx dead q => ⟨nx, h.jat q⟩, fun v q => h.cell q, fun q => h.tabs q⟩
/-- Records that stand one behind the other. -/
def Chain (d : DS) (fr sz st : Nat) (xs : List GotJ) : Prop := ∀ k (h : k < xs.length), recFrom d fr sz st (numb st (xs.take k)) = some (xs[k].l, xs[k].b)
theorem Chain.snoc {d : DS} {fr sz st : Nat} {xs : List GotJ} {x : GotJ} (h : Chain d fr sz st xs) (hx : recFrom d fr sz st (numb st xs) = some (x.l, x.b)) : Chain d fr sz st (xs ++ [x]) := fun k hk => by
  by_cases e : k < xs.length
  · rw [List.take_append_of_le_length (by omega), List.getElem_append_left e]
    exact h k e
  · have e2 : k = xs.length := by simp at hk; omega
    subst e2
    rw [List.take_left, List.getElem_append_right (Nat.le_refl _)]
    simpa using hx
/-- What is there while Open goes through the records. -/
structure OSt (w X : World) (m : DM) (n : Nat) (d : DS) (s fr sz st : Nat) (xs : List GotJ) : Prop where
  ch : Chain d fr sz st xs
  cj : X.heap[s + 1]? = some (.cells #[.pointer (some ⟨s, 0, none⟩)] 37 (0, 0))
  cr : ∃ v, X.heap[s + 2]? = some (.cells #[v] 31 (0, 0)) ∧ X.ownsRow (s + 4) 22 1 v xs.length (xs.map (·.v)) ∧ ∃ a l c, v = .slice a l c
  ck : X.heap[s + 3]? = some (.cells #[.pointer (some ⟨s, 0, none⟩)] 37 (0, 0))
  rs : ∀ x ∈ xs, IsRec X x.v x.l
  ja : JAt X s m.D fr sz st (numb st xs) false
  dk : Dsk X m n d
  tb : Tabs X
  bw : Below s w X
  sz4 : s + 4 ≤ X.heap.size
  nb : st ≤ numb st xs ∧ numb st xs ≤ st + sz
  ln : xs.length ≤ numb st xs - st
theorem OSt.below {w X Y : World} {m : DM} {n : Nat} {d : DS} {s fr sz st : Nat} {xs : List GotJ} (h : OSt w X m n d s fr sz st xs) (b : Below X.heap.size X Y) : OSt w Y m n d s fr sz st xs := by
  have lt := fun {k : Nat} {o : Obj} (e : X.heap[k]? = some o) => (b.block k (Array.getElem?_eq_some_iff.1 e).1).trans e
  obtain ⟨v, h1, h2, h3⟩ := h.cr
  exact ⟨h.ch, lt h.cj, ⟨v, lt h1, owns_same h2 (fun k e => b.block k (h2.lt k e).2), h3⟩, lt h.ck, fun x hx => (h.rs x hx).below b, h.ja.below b, h.dk.below b, h.tb.below b h.tb.size, h.bw.trans (b.mono (by have := h.sz4; omega)), Nat.le_trans h.sz4 b.size, h.nb, h.ln⟩
theorem OSt.put {w X : World} {m : DM} {n : Nat} {d : DS} {s fr sz st : Nat} {xs : List GotJ} (h : OSt w X m n d s fr sz st xs) {l : Nat} {o : Obj} (o' : Obj) (hs : s ≤ l) (hl : X.heap[l]? = some o) (hc : o.isCells = false) : OSt w (X.putObj l o') m n d s fr sz st xs := by
  have q := Cl.put o' hl hc
  obtain ⟨v, h1, h2, h3⟩ := h.cr
  exact ⟨h.ch, q _ _ _ _ h.cj, ⟨v, q _ _ _ _ h1, q.owns h2, h3⟩, q _ _ _ _ h.ck, fun x hx => q.isRec (h.rs x hx), q.jat h.ja, q.dsk h.dk, q.tabs h.tb, h.bw.grown (grownBy_putObj' X l o') (by have := h.sz4; omega) (fun k e => by cases e; omega), by have := h.sz4; simpa using this, h.nb, h.ln⟩
theorem standing_any (J : Nat) (w : World) : Calls Tryd.prog 47 #[.pointer (some ⟨J, 0, none⟩)] w fun e w' => e = .returned (.func (.func 67) #[] #[.pointer (some ⟨w.heap.size, 0, none⟩)]) ∧ w' = w.alloc (.cells #[.pointer (some ⟨J, 0, none⟩)] 37) := by
  go_enter Tryd.func47, Tryd.ntmps47
  go_wp2
  go_ret
  exact ⟨rfl, rfl⟩
theorem ost_start {w : World} {m : DM} {n : Nat} {d : DS} {fr sz st : Nat} (hd : Dsk w m n d) (ht : Tabs w) : OSt w ((((w.alloc (.cells #[.pointer (some ⟨m.D, 0, none⟩), .int .i64 (fr : Int), .int .i64 (sz : Int), .int .i64 (st : Int), .int .i64 (st : Int), .bool false] 80)).alloc (.cells #[.pointer (some ⟨w.heap.size, 0, none⟩)] 37)).alloc (.cells #[.slice none 0 0] 31)).alloc (.cells #[.pointer (some ⟨w.heap.size, 0, none⟩)] 37)) m n d w.heap.size fr sz st [] := by
  have b1 := (Below.refl w.heap.size w).alloc (Nat.le_refl _) (.cells #[.pointer (some ⟨m.D, 0, none⟩), .int .i64 (fr : Int), .int .i64 (sz : Int), .int .i64 (st : Int), .int .i64 (st : Int), .bool false] 80)
  have h1 := heap_alloc_new w (.cells #[.pointer (some ⟨m.D, 0, none⟩), .int .i64 (fr : Int), .int .i64 (sz : Int), .int .i64 (st : Int), .int .i64 (st : Int), .bool false] 80)
  have s1 : (w.alloc (.cells #[.pointer (some ⟨m.D, 0, none⟩), .int .i64 (fr : Int), .int .i64 (sz : Int), .int .i64 (st : Int), .int .i64 (st : Int), .bool false] 80)).heap.size = w.heap.size + 1 := by simp
  obtain ⟨w1, e1⟩ : ∃ x, w.alloc (.cells #[.pointer (some ⟨m.D, 0, none⟩), .int .i64 (fr : Int), .int .i64 (sz : Int), .int .i64 (st : Int), .int .i64 (st : Int), .bool false] 80) = x := ⟨_, rfl⟩
  rw [e1] at b1 h1 s1 ⊢
  have b2 := (Below.refl w1.heap.size w1).alloc (Nat.le_refl _) (.cells #[.pointer (some ⟨w.heap.size, 0, none⟩)] 37)
  have h2 := heap_alloc_new w1 (.cells #[.pointer (some ⟨w.heap.size, 0, none⟩)] 37)
  have s2 : (w1.alloc (.cells #[.pointer (some ⟨w.heap.size, 0, none⟩)] 37)).heap.size = w.heap.size + 2 := by simp [s1]
  obtain ⟨w2, e2⟩ : ∃ x, w1.alloc (.cells #[.pointer (some ⟨w.heap.size, 0, none⟩)] 37) = x := ⟨_, rfl⟩
  rw [e2] at b2 h2 s2 ⊢
  have b3 := (Below.refl w2.heap.size w2).alloc (Nat.le_refl _) (.cells #[.slice none 0 0] 31)
  have h3 := heap_alloc_new w2 (.cells #[.slice none 0 0] 31)
  have s3 : (w2.alloc (.cells #[.slice none 0 0] 31)).heap.size = w.heap.size + 3 := by simp [s2]
  obtain ⟨w3, e3⟩ : ∃ x, w2.alloc (.cells #[.slice none 0 0] 31) = x := ⟨_, rfl⟩
  rw [e3] at b3 h3 s3 ⊢
  have b4 := (Below.refl w3.heap.size w3).alloc (Nat.le_refl _) (.cells #[.pointer (some ⟨w.heap.size, 0, none⟩)] 37)
  have h4 := heap_alloc_new w3 (.cells #[.pointer (some ⟨w.heap.size, 0, none⟩)] 37)
  have s4 : (w3.alloc (.cells #[.pointer (some ⟨w.heap.size, 0, none⟩)] 37)).heap.size = w.heap.size + 4 := by simp [s3]
  obtain ⟨w4, e4⟩ : ∃ x, w3.alloc (.cells #[.pointer (some ⟨w.heap.size, 0, none⟩)] 37) = x := ⟨_, rfl⟩
  rw [e4] at b4 h4 s4 ⊢
  rw [s1] at h2 b2
  rw [s2] at h3 b3
  rw [s3] at h4 b4
  have bw : Below w.heap.size w w4 := ((b1.trans (b2.mono (by omega))).trans (b3.mono (by omega))).trans (b4.mono (by omega))
  refine ⟨(fun k hk => nomatch hk), ?_, ⟨.slice none 0 0, ?_, World.ownsRow_nil _ _ _ _, ⟨_, _, _, rfl⟩⟩, h4, (fun x hx => nomatch hx), ?_, hd.below bw, ht.below bw ht.size, bw, by omega, ⟨by rw [numb_nil]; exact Nat.le_refl _, by rw [numb_nil]; omega⟩, Nat.zero_le _⟩
  · rw [b4.block _ (by omega), b3.block _ (by omega)]; exact h2
  · rw [b4.block _ (by omega)]; exact h3
  · unfold JAt
    rw [b4.block _ (by omega), b3.block _ (by omega), b2.block _ (by omega), numb_nil]
    exact h1
end Go.Proofs.YtikpmaecbfebkaaDoor
