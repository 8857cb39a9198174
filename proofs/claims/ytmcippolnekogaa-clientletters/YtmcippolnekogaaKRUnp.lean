/- The reference's letters: Unpack. -/
import Derived.Test.YtmcippolnekogaaKAllC
import Derived.Test.YtmcippolnekogaaRefGO
import Derived.Test.YtmcippolnekogaaKAllA
namespace Go.Proofs.Ytmcippolnekogaa
open Go.RowKit Cod
attribute [local go_sem] Oper.semAt_some
set_option linter.unusedVariables false

/-- A letter that is filled while the reference reads. -/
structure FQ (w0 w : World) (R A B N : Nat) (l : List (BitVec 8)) (a y : Nat) (cs : Array Value) : Prop where
  rdr : RRd w R A B l a y
  old : w.heap[w0.heap.size]? = some (.cells #[.int .i64 0, .int .i64 0, .int .i64 0, .int .i64 0, .string ⟨#[]⟩, .string ⟨#[]⟩, .int .i64 0, .string ⟨#[]⟩, .int .i64 0, .int .i64 0, .int .i64 0, .int .i64 0, .slice none 0 0, .slice none 0 0] 30 (0, 0))
  new : w.heap[N]? = some (.cells cs 30 (0, 0))
  bel : Below w0.heap.size w0 w
  tr : w0.heap.size < R
  rn : R < N
  bn : B ≤ N
section
variable {w0 w w' : World} {R A B N : Nat} {l : List (BitVec 8)} {a y : Nat} {cs : Array Value}
theorem FQ.call (h : FQ w0 w R A B N l a y cs) {a' y' : Nat} (hr : RRd w' R A B l a' y') (g : w.grownBy w' (some R)) : FQ w0 w' R A B N l a' y' cs :=
  ⟨hr, (g.block _ (Array.getElem?_eq_some_iff.1 h.old).1 (by have := h.tr; intro e; cases e; omega)).trans h.old, (g.block _ (Array.getElem?_eq_some_iff.1 h.new).1 (by have := h.rn; intro e; cases e; omega)).trans h.new, h.bel.grown g h.bel.size (fun k e => by cases e; exact Nat.le_of_lt h.tr), h.tr, h.rn, h.bn⟩
theorem FQ.store (h : FQ w0 w R A B N l a y cs) (i : Nat) (v : Value) : FQ w0 (w.setCell ⟨N, i, none⟩ v) R A B N l a y (cs.setIfInBounds i v) := by
  have h1 := h.tr
  have h2 := h.rn
  have h3 := h.bn
  exact ⟨h.rdr.since (Below.heap_setCell _ _ _ _ (by show R ≠ N; omega)) (fun k hk _ => Below.heap_setCell _ _ _ _ (by show k ≠ N; omega)), (Below.heap_setCell _ _ _ _ (by show w0.heap.size ≠ N; omega)).trans h.old, set_block h.new i v, h.bel.setCell (by show w0.heap.size ≤ N; omega) v, h1, h2, h3⟩
theorem FQ.cell (h : FQ w0 w R A B N l a y cs) (i : Nat) : w.cell? ⟨N, i, none⟩ = cs[i]? ∧ w.frozen? ⟨N, i, none⟩ = false := by
  simp [World.cell?, World.frozen?, h.new]
theorem FQ.there (h : FQ w0 w R A B N l a y cs) (o n : Nat) (hn : o + n ≤ cs.size) : w.there N o n := fun j hj => by
  obtain ⟨c1, c2⟩ := h.cell (o + j)
  exact ⟨by rw [c1, Array.getElem?_eq_getElem (by omega)]; rfl, c2⟩
theorem FQ.lt (h : FQ w0 w R A B N l a y cs) : N < w.heap.size := (Array.getElem?_eq_some_iff.1 h.new).1
/-- What a letter that is read lies in. -/
theorem FQ.done (h : FQ w0 w R A B N l a y cs) : Below w0.heap.size w0 (w.setRow w0.heap.size cs) ∧ (w.setRow w0.heap.size cs).heap[w0.heap.size]? = some (.cells cs 30 (0, 0)) ∧ (∀ k, k ≠ w0.heap.size → (w.setRow w0.heap.size cs).heap[k]? = w.heap[k]?) :=
  ⟨⟨h.bel.os, h.bel.tape, h.bel.output, by simpa using h.bel.size, fun k hk => (setRow_other _ _ _ _ (by omega)).trans (h.bel.block k hk)⟩, setRow_heap _ _ _ _ _ _ h.old, fun k hk => setRow_other _ _ _ _ hk⟩
end
theorem FQ.stores {w0 : World} {R A B N : Nat} {l : List (BitVec 8)} {a y : Nat} : ∀ (vs : List Value) (o : Nat) (w : World) (cs : Array Value), FQ w0 w R A B N l a y cs → FQ w0 (w.setCells N o vs) R A B N l a y (setsL cs o vs)
  | [], _, _, _, h => h
  | v :: r, o, w, cs, h => FQ.stores r (o + 1) _ _ (h.store o v)
/-- What the reference's Unpack tells, in bytes that begin with a kind. -/
structure Zef (w w' : World) : Prop where
  bel : Below w.heap.size w w'
  z : w'.heap[w.heap.size]? = some (.cells #[.int .i64 0, .int .i64 0, .int .i64 0, .int .i64 0, .string ⟨#[]⟩, .string ⟨#[]⟩, .int .i64 0, .string ⟨#[]⟩, .int .i64 0, .int .i64 0, .int .i64 0, .int .i64 0, .slice none 0 0, .slice none 0 0] 30 (0, 0))
theorem Zef.row {w w' : World} (h : Zef w w') : Zef w (w'.setRow w.heap.size #[.int .i64 0, .int .i64 0, .int .i64 0, .int .i64 0, .string ⟨#[]⟩, .string ⟨#[]⟩, .int .i64 0, .string ⟨#[]⟩, .int .i64 0, .int .i64 0, .int .i64 0, .int .i64 0, .slice none 0 0, .slice none 0 0]) :=
  ⟨⟨h.bel.os, h.bel.tape, h.bel.output, by simpa using h.bel.size, fun k hk => (setRow_other _ _ _ _ (by omega)).trans (h.bel.block k hk)⟩, setRow_heap _ _ _ _ _ _ h.z⟩
theorem Zef.grown {w w' w'' : World} {R : Nat} (h : Zef w w') (g : w'.grownBy w'' (some R)) (hR : w.heap.size < R) : Zef w w'' :=
  ⟨h.bel.grown g h.bel.size (fun k e => by cases e; omega), (g.block _ (Array.getElem?_eq_some_iff.1 h.z).1 (by intro e; cases e; omega)).trans h.z⟩
theorem Zef.below {w w' w'' : World} (h : Zef w w') (b : Below w'.heap.size w' w'') : Zef w w'' :=
  ⟨h.bel.trans (b.mono h.bel.size), (b.block _ (Array.getElem?_eq_some_iff.1 h.z).1).trans h.z⟩
theorem take_store_rowK {P : Program} {ops : Array Oper} {Q : Exit → Act → World → Prop} {md : Region.Mode} {S : World → Prop} {i : Nat} {oi : Oper} {fuel : Nat} {listed : Array Bool} {a : Act} {w : World} (hi : ops[i]? = some oi) (hr : Region.ready md ops listed = [i]) (hw : Region.wanted oi (yielded ops a.tmps) = true)
    (ty : TypeId) (x y : Operand) (g : Nat) (cells : Array Value) (t : TypeId) (old : Array Value) (ho : oi.op = .store ty x y) (hx : a.eval x = .pointer (some ⟨g, 0, none⟩)) (hy : a.eval y = .agg cells) (hg : w.heap[g]? = some (.cells old t (0, 0)))
    (hz : (P.info? ty).map (·.size) = some cells.size) (hold : old.size = cells.size) (h1 : cells.all (·.oneCell') = true) (hS : S (w.setRow g cells))
    (h : wpAnyH P md ops Q S fuel (listed.setIfInBounds i true) (a.put oi.dst undef) (w.setRow g cells)) : wpAnyH P md ops Q S (fuel + 1) listed a w :=
  take_eff hi hr hw (by
    unfold execOp
    simp only [ho, hx, hy, Instr.storeAt, Instr.sureAddr, Sem.run_bind, Sem.run_pure, Result.andThen_ok, run_storeVar_row w g t ty old cells hg hz hold h1]) hS h
set_option maxRecDepth 100000 in
set_option maxHeartbeats 4000000 in
theorem refUnpack_num (a : Option Addr) (cap : Nat) (l : List (BitVec 8)) (w : World) (h : Seen w a l.length l) (hnil : a = none → cap = 0) (h0 : ¬ 1048576 < l.length) (h1 : (rU l 0 0).2.2 ≠ 0) :
    Calls Try.prog 16 #[.slice a l.length cap] w fun e w' => UnpTold w w' l e := by
  have z1 : Zef w (w.alloc (.cells #[.int .i64 0, .int .i64 0, .int .i64 0, .int .i64 0, .string ⟨#[]⟩, .string ⟨#[]⟩, .int .i64 0, .string ⟨#[]⟩, .int .i64 0, .int .i64 0, .int .i64 0, .int .i64 0, .slice none 0 0, .slice none 0 0] 30)) := ⟨(Below.refl _ w).alloc (Nat.le_refl _) _, heap_alloc_new w _⟩
  have Z1 : Hid (Zef w _) := z1
  have h0' : ¬ (1048576 : Int) < (l.length : Int) := by omega
  have C51 := refOf_any a l.length cap l (w.alloc (.cells #[.int .i64 0, .int .i64 0, .int .i64 0, .int .i64 0, .string ⟨#[]⟩, .string ⟨#[]⟩, .int .i64 0, .string ⟨#[]⟩, .int .i64 0, .int .i64 0, .int .i64 0, .int .i64 0, .slice none 0 0, .slice none 0 0] 30)) (h.below z1.bel) hnil (by omega)
  have HP : Hid _ := unpack_num h0 h1
  have CI : Hid (∀ (R A B : Nat) (W : World), RRd W R A B l 0 0 → Calls Try.prog 46 #[.pointer (some ⟨R, 0, none⟩)] W fun e w' => e = .returned (.int .i64 (zag (rU l 0 0).1)) ∧ RRd w' R A B l (rU l 0 0).2.1 (rU l 0 0).2.2 ∧ W.grownBy w' (some R)) := fun R A B W h => refRInt_any R A B l 0 0 W h
  generalize rU l 0 0 = X at *
  obtain ⟨m, p, y⟩ := X
  simp only at HP CI h1
  generalize zag m = k at *
  have hy' : (((y : Nat) : Int) != 0) = true := by simp; omega
  clear h hnil h0 z1 h1
  go_enter Try.func16, Try.ntmps16
  go_wp2_with fail
  refine C51.mono ?_
  rintro e w2 ⟨R, rfl, hR, r2, b2⟩
  have HR : Hid (w.heap.size < R) := by show _ < _; simp at hR; omega
  have Z2 : Hid (Zef w w2) := Z1.out.below b2
  obtain ⟨A, eA⟩ : ∃ A, (w.alloc (.cells #[.int .i64 0, .int .i64 0, .int .i64 0, .int .i64 0, .string ⟨#[]⟩, .string ⟨#[]⟩, .int .i64 0, .string ⟨#[]⟩, .int .i64 0, .int .i64 0, .int .i64 0, .int .i64 0, .slice none 0 0, .slice none 0 0] 30)).heap.size = A := ⟨_, rfl⟩
  obtain ⟨B, eB⟩ : ∃ B, w2.heap.size = B := ⟨_, rfl⟩
  have r2' : RRd w2 R A B l 0 0 := by rw [← eA, ← eB]; exact r2
  have HBs : Hid (B ≤ w2.heap.size) := by show _ ≤ _; omega
  have CI' := CI.out R A B w2 r2'
  clear C51 r2 b2 hR CI Z1 eA eB r2'
  go_wp2_with fail
  refine CI'.mono ?_
  rintro e w3 ⟨rfl, r3, g3⟩
  have Z3 : Hid (Zef w w3) := Z2.out.grown g3 HR.out
  have R3 : Hid (RRd w3 R A B l p y) := r3
  have LB : Hid (B ≤ w3.heap.size) := Nat.le_trans HBs.out g3.size
  obtain ⟨_, _, _, _, k2, _⟩ := r3.cells
  clear CI' r3 g3 Z2
  have BK : Hid (∀ W : World, W.heap[R]? = w3.heap[R]? → W.cell? ⟨R, 2, none⟩ = some (.int .i64 y)) := fun W e => by
    have := k2
    simp only [World.cell?, e] at this ⊢
    exact this
  go_wp2_with fail
  refine wp_region_held_drew (S := fun W => W.heap[R]? = w3.heap[R]? ∧ Zef w W) (by kernel_rfl) ⟨rfl, ⟨Z3.out.bel.drew, Z3.out.z⟩⟩ (fun hHeld => ?_)
  refine take_run (i := 0) (oi := { dst := some 21, op := Go.Op.build 30 #[], type := 30, pos := "ref.go:74", after := #[], guard := none }) (v := .agg #[.int .i64 0, .int .i64 0, .int .i64 0, .int .i64 0, .string ⟨#[]⟩, .string ⟨#[]⟩, .int .i64 0, .string ⟨#[]⟩, .int .i64 0, .int .i64 0, .int .i64 0, .int .i64 0, .slice none 0 0, .slice none 0 0]) rfl (by kernel_rfl) (by kernel_rfl) (by kernel_rfl) (fun _ _ _ h => h) (by rfl) ?_ hHeld ?_
  · (intro wq hSw; go_simp <;> with_reducible rfl)
  try simp only [Act.put, List.setIfInBounds_toArray, List.set_cons_zero, List.set_cons_succ]
  refine take_run (i := 1) (oi := { dst := some 22, op := Go.Op.move (Go.Operand.tmp 4), type := 85, pos := "ref.go:74", after := #[{ on := 5, ground := Go.Ground.gcOnly Go.Departure.lateStores }], guard := none }) (v := .pointer (some ⟨R, 0, none⟩)) rfl (by kernel_rfl) (by kernel_rfl) (by kernel_rfl) (fun _ _ _ h => h) (by rfl) ?_ hHeld ?_
  · (intro wq hSw; go_simp <;> with_reducible rfl)
  try simp only [Act.put, List.setIfInBounds_toArray, List.set_cons_zero, List.set_cons_succ]
  refine take_run (i := 2) (oi := { dst := some 23, op := Go.Op.nilCheck (Go.Operand.tmp 22), type := 0, pos := "ref.go:74", after := #[{ on := 1, ground := Go.Ground.data }, { on := 5, ground := Go.Ground.gcOnly Go.Departure.lateStores }], guard := none }) (v := .pointer (some ⟨R, 0, none⟩)) rfl (by kernel_rfl) (by kernel_rfl) (by kernel_rfl) (fun _ _ _ h => h) (by rfl) ?_ hHeld ?_
  · (intro wq hSw; go_simp <;> with_reducible rfl)
  try simp only [Act.put, List.setIfInBounds_toArray, List.set_cons_zero, List.set_cons_succ]
  refine take_run (i := 3) (oi := { dst := some 24, op := Go.Op.fieldAddr 88 (Go.Operand.tmp 23) 2, type := 0, pos := "ref.go:74", after := #[{ on := 2, ground := Go.Ground.data }, { on := 5, ground := Go.Ground.gcOnly Go.Departure.lateStores }], guard := none }) (v := .pointer (some ⟨R, 2, none⟩)) rfl (by kernel_rfl) (by kernel_rfl) (by kernel_rfl) (fun _ _ _ h => h) (by rfl) ?_ hHeld ?_
  · (intro wq hSw; go_simp <;> with_reducible rfl)
  try simp only [Act.put, List.setIfInBounds_toArray, List.set_cons_zero, List.set_cons_succ]
  refine take_run (i := 4) (oi := { dst := some 25, op := Go.Op.load 24 (Go.Operand.tmp 24), type := 24, pos := "ref.go:74", after := #[{ on := 3, ground := Go.Ground.data }, { on := 5, ground := Go.Ground.gcOnly Go.Departure.lateStores }], guard := none }) (v := .int .i64 y) rfl (by kernel_rfl) (by kernel_rfl) (by kernel_rfl) (fun _ _ _ h => h) (by rfl) ?_ hHeld ?_
  · (intro wq hSw; have hk := BK.out wq hSw.1; go_simp <;> with_reducible rfl)
  try simp only [Act.put, List.setIfInBounds_toArray, List.set_cons_zero, List.set_cons_succ]
  refine take_store_rowK (i := 5) (oi := { dst := none, op := Go.Op.store 30 (Go.Operand.tmp 2) (Go.Operand.tmp 21), type := 0, pos := "ref.go:74", after := #[{ on := 0, ground := Go.Ground.data }, { on := 0, ground := Go.Ground.phase }, { on := 1, ground := Go.Ground.textOnly Go.Departure.lateStores }, { on := 2, ground := Go.Ground.textOnly Go.Departure.lateStores }, { on := 3, ground := Go.Ground.textOnly Go.Departure.lateStores }, { on := 4, ground := Go.Ground.textOnly Go.Departure.lateStores }], guard := none }) rfl (by kernel_rfl) (by rfl) 30 (.tmp 2) (.tmp 21) w.heap.size #[.int .i64 0, .int .i64 0, .int .i64 0, .int .i64 0, .string ⟨#[]⟩, .string ⟨#[]⟩, .int .i64 0, .string ⟨#[]⟩, .int .i64 0, .int .i64 0, .int .i64 0, .int .i64 0, .slice none 0 0, .slice none 0 0] 30 _ rfl (by go_simp <;> with_reducible rfl) (by go_simp <;> with_reducible rfl) hHeld.2.z (by kernel_rfl) rfl (by simp [Value.oneCell']) ⟨(setRow_other _ _ _ _ (by have := HR.out; omega)).trans hHeld.1, hHeld.2.row⟩ ?_
  try simp only [Act.put]
  have hH2 : (_ ∧ Zef w _) := ⟨(setRow_other w3.drew w.heap.size R #[.int .i64 0, .int .i64 0, .int .i64 0, .int .i64 0, .string ⟨#[]⟩, .string ⟨#[]⟩, .int .i64 0, .string ⟨#[]⟩, .int .i64 0, .int .i64 0, .int .i64 0, .int .i64 0, .slice none 0 0, .slice none 0 0] (by have := HR.out; omega)).trans hHeld.1, hHeld.2.row⟩
  refine take_run (i := 6) (oi := { dst := some 3, op := Go.Op.assign (Go.Operand.tmp 25), type := 24, pos := "ref.go:74", after := #[{ on := 4, ground := Go.Ground.data }, { on := 5, ground := Go.Ground.chain }, { on := 0, ground := Go.Ground.phase }, { on := 1, ground := Go.Ground.phase }, { on := 2, ground := Go.Ground.phase }, { on := 3, ground := Go.Ground.phase }, { on := 4, ground := Go.Ground.phase }, { on := 5, ground := Go.Ground.phase }], guard := none }) (v := .int .i64 y) rfl (by kernel_rfl) (by kernel_rfl) (by kernel_rfl) (fun _ _ _ h => h) (by rfl) ?_ hH2 ?_
  · (intro wq hSw; go_simp <;> with_reducible rfl)
  try simp only [Act.put, List.setIfInBounds_toArray, List.set_cons_zero, List.set_cons_succ]
  refine wpAnyH_done (by kernel_rfl) ?_ _
  have ZF := hHeld.2.row
  have ZFH : Hid (Zef w _) := ZF
  clear ZF hHeld hH2
  go_wp2
  exact bodyPost_ret (results_ctK rfl _ _ w.heap.size 30 _ (0, 0) _ rfl ZFH.out.z Try.underlying30 rfl (by kernel_rfl)) rfl (unp_zero HP.out ZFH.out.bel rfl)
set_option maxRecDepth 100000 in
set_option maxHeartbeats 4000000 in
theorem refUnpack_arg (a : Option Addr) (cap : Nat) (l : List (BitVec 8)) (w : World) (h : Seen w a l.length l) (hnil : a = none → cap = 0) (h0 : ¬ 1048576 < l.length) (h1 : (rU l 0 0).2.2 = 0) (h2 : zag (rU l 0 0).1 < 1 ∨ 5 < zag (rU l 0 0).1) :
    Calls Try.prog 16 #[.slice a l.length cap] w fun e w' => UnpTold w w' l e := by
  have z1 : Zef w (w.alloc (.cells #[.int .i64 0, .int .i64 0, .int .i64 0, .int .i64 0, .string ⟨#[]⟩, .string ⟨#[]⟩, .int .i64 0, .string ⟨#[]⟩, .int .i64 0, .int .i64 0, .int .i64 0, .int .i64 0, .slice none 0 0, .slice none 0 0] 30)) := ⟨(Below.refl _ w).alloc (Nat.le_refl _) _, heap_alloc_new w _⟩
  have Z1 : Hid (Zef w _) := z1
  have h0' : ¬ (1048576 : Int) < (l.length : Int) := by omega
  have C51 := refOf_any a l.length cap l (w.alloc (.cells #[.int .i64 0, .int .i64 0, .int .i64 0, .int .i64 0, .string ⟨#[]⟩, .string ⟨#[]⟩, .int .i64 0, .string ⟨#[]⟩, .int .i64 0, .int .i64 0, .int .i64 0, .int .i64 0, .slice none 0 0, .slice none 0 0] 30)) (h.below z1.bel) hnil (by omega)
  have HP : Hid _ := unpack_arg h0 h1 h2
  have CI : Hid (∀ (R A B : Nat) (W : World), RRd W R A B l 0 0 → Calls Try.prog 46 #[.pointer (some ⟨R, 0, none⟩)] W fun e w' => e = .returned (.int .i64 (zag (rU l 0 0).1)) ∧ RRd w' R A B l (rU l 0 0).2.1 (rU l 0 0).2.2 ∧ W.grownBy w' (some R)) := fun R A B W h => refRInt_any R A B l 0 0 W h
  generalize rU l 0 0 = X at *
  obtain ⟨m, p, y⟩ := X
  simp only at CI h1 h2
  generalize zag m = k at *
  subst h1
  have e1 : (k == 1) = false := by simp; omega
  have e2 : (k == 2) = false := by simp; omega
  have e3 : (k == 3) = false := by simp; omega
  have e4 : (k == 4) = false := by simp; omega
  have e5 : (k == 5) = false := by simp; omega
  clear h hnil h0 z1 h2
  go_enter Try.func16, Try.ntmps16
  go_wp2_with fail
  refine C51.mono ?_
  rintro e w2 ⟨R, rfl, hR, r2, b2⟩
  have HR : Hid (w.heap.size < R) := by show _ < _; simp at hR; omega
  have Z2 : Hid (Zef w w2) := Z1.out.below b2
  obtain ⟨A, eA⟩ : ∃ A, (w.alloc (.cells #[.int .i64 0, .int .i64 0, .int .i64 0, .int .i64 0, .string ⟨#[]⟩, .string ⟨#[]⟩, .int .i64 0, .string ⟨#[]⟩, .int .i64 0, .int .i64 0, .int .i64 0, .int .i64 0, .slice none 0 0, .slice none 0 0] 30)).heap.size = A := ⟨_, rfl⟩
  obtain ⟨B, eB⟩ : ∃ B, w2.heap.size = B := ⟨_, rfl⟩
  have r2' : RRd w2 R A B l 0 0 := by rw [← eA, ← eB]; exact r2
  have HBs : Hid (B ≤ w2.heap.size) := by show _ ≤ _; omega
  have CI' := CI.out R A B w2 r2'
  clear C51 r2 b2 hR CI Z1 eA eB r2'
  go_wp2_with fail
  refine CI'.mono ?_
  rintro e w3 ⟨rfl, r3, g3⟩
  have Z3 : Hid (Zef w w3) := Z2.out.grown g3 HR.out
  have R3 : Hid (RRd w3 R A B l p 0) := r3
  have LB : Hid (B ≤ w3.heap.size) := Nat.le_trans HBs.out g3.size
  obtain ⟨_, _, _, _, k2, _⟩ := r3.cells
  clear CI' r3 g3 Z2
  have z4 : Zef w (w3.alloc (.cells #[.int .i64 k, .int .i64 0, .int .i64 0, .int .i64 0, .string ⟨#[]⟩, .string ⟨#[]⟩, .int .i64 0, .string ⟨#[]⟩, .int .i64 0, .int .i64 0, .int .i64 0, .int .i64 0, .slice none 0 0, .slice none 0 0] 30)) := Z3.out.below ((Below.refl _ w3).alloc (Nat.le_refl _) _)
  have Z4 : Hid (Zef w _) := z4
  have ZS : Hid _ := z4.z
  clear z4
  go_wp2_with (refine wpList_store_row rfl 30 (.tmp 2) (.tmp 29) rfl w.heap.size #[.int .i64 0, .int .i64 0, .int .i64 0, .int .i64 0, .string ⟨#[]⟩, .string ⟨#[]⟩, .int .i64 0, .string ⟨#[]⟩, .int .i64 0, .int .i64 0, .int .i64 0, .int .i64 0, .slice none 0 0, .slice none 0 0] rfl rfl 30 _ ZS.out (by kernel_rfl) rfl (by simp [Value.oneCell']) ?_)
  exact bodyPost_ret (results_ctK rfl _ _ w.heap.size 30 _ (0, 0) _ rfl Z4.out.row.z Try.underlying30 rfl (by kernel_rfl)) rfl (unp_zero HP.out Z4.out.row.bel rfl)
set_option maxRecDepth 100000 in
set_option maxHeartbeats 4000000 in
theorem refUnpack_1 (a : Option Addr) (cap : Nat) (l : List (BitVec 8)) (w : World) (h : Seen w a l.length l) (hnil : a = none → cap = 0) (h0 : ¬ 1048576 < l.length) (h1 : (rU l 0 0).2.2 = 0) (h2 : zag (rU l 0 0).1 = 1) :
    Calls Try.prog 16 #[.slice a l.length cap] w fun e w' => UnpTold w w' l e := by
  have z1 : Zef w (w.alloc (.cells #[.int .i64 0, .int .i64 0, .int .i64 0, .int .i64 0, .string ⟨#[]⟩, .string ⟨#[]⟩, .int .i64 0, .string ⟨#[]⟩, .int .i64 0, .int .i64 0, .int .i64 0, .int .i64 0, .slice none 0 0, .slice none 0 0] 30)) := ⟨(Below.refl _ w).alloc (Nat.le_refl _) _, heap_alloc_new w _⟩
  have Z1 : Hid (Zef w _) := z1
  have h0' : ¬ (1048576 : Int) < (l.length : Int) := by omega
  have C51 := refOf_any a l.length cap l (w.alloc (.cells #[.int .i64 0, .int .i64 0, .int .i64 0, .int .i64 0, .string ⟨#[]⟩, .string ⟨#[]⟩, .int .i64 0, .string ⟨#[]⟩, .int .i64 0, .int .i64 0, .int .i64 0, .int .i64 0, .slice none 0 0, .slice none 0 0] 30)) (h.below z1.bel) hnil (by omega)
  have HPE : Hid (∀ y9, rEnd l (readD l 1 (rU l 0 0).2.1 0).2.1 (readD l 1 (rU l 0 0).2.1 0).2.2 = y9 → y9 ≠ 0 → unpackD l = (LetD.zero, y9)) := fun y9 e hn => by
    subst e
    have := unpack_end h0 h1 (by rw [h2]; omega) (by rw [h2]; exact hn)
    rw [h2] at this
    exact this
  have HPO : Hid (rEnd l (readD l 1 (rU l 0 0).2.1 0).2.1 (readD l 1 (rU l 0 0).2.1 0).2.2 = 0 → unpackD l = ((readD l 1 (rU l 0 0).2.1 0).1, 0)) := fun e => by
    have := unpack_ok h0 h1 (by rw [h2]; omega) (by rw [h2]; exact e)
    rw [h2] at this
    exact this
  have CI : Hid (∀ (R A B : Nat) (W : World), RRd W R A B l 0 0 → Calls Try.prog 46 #[.pointer (some ⟨R, 0, none⟩)] W fun e w' => e = .returned (.int .i64 (zag (rU l 0 0).1)) ∧ RRd w' R A B l (rU l 0 0).2.1 (rU l 0 0).2.2 ∧ W.grownBy w' (some R)) := fun R A B W h => refRInt_any R A B l 0 0 W h
  generalize rU l 0 0 = X0 at *
  obtain ⟨m0, p, y0⟩ := X0
  simp only at HPE HPO CI h1 h2
  subst h1
  rw [h2] at CI
  rw [readD, if_pos rfl] at HPE HPO
  have C1 : Hid (∀ (R A B : Nat) (W : World), RRd W R A B l p 0 → Calls Try.prog 47 #[.pointer (some ⟨R, 0, none⟩)] W fun e w' => ∃ v, e = .returned v ∧ w'.ownsRow W.heap.size 5 1 v (rS l p 0).1.length (cellsOf (rS l p 0).1) ∧ (rS l p 0).1.length ≤ 65536 ∧ RRd w' R A B l (rS l p 0).2.1 (rS l p 0).2.2 ∧ W.grownBy w' (some R)) := fun R A B W h => refRBytes_any R A B l _ _ W h
  generalize rS l p 0 = X1 at *
  obtain ⟨xl, xp, xy⟩ := X1
  simp only at *
  have HY : Hid (∃ yy, rEnd l xp xy = yy) := ⟨_, rfl⟩
  clear h hnil h0 z1 h2
  go_enter Try.func16, Try.ntmps16
  go_wp2_with fail
  refine C51.mono ?_
  rintro e w2 ⟨R, rfl, hR, r2, b2⟩
  have HR : Hid (w.heap.size < R) := by show _ < _; simp at hR; omega
  have Z2 : Hid (Zef w w2) := Z1.out.below b2
  obtain ⟨A, eA⟩ : ∃ A, (w.alloc (.cells #[.int .i64 0, .int .i64 0, .int .i64 0, .int .i64 0, .string ⟨#[]⟩, .string ⟨#[]⟩, .int .i64 0, .string ⟨#[]⟩, .int .i64 0, .int .i64 0, .int .i64 0, .int .i64 0, .slice none 0 0, .slice none 0 0] 30)).heap.size = A := ⟨_, rfl⟩
  obtain ⟨B, eB⟩ : ∃ B, w2.heap.size = B := ⟨_, rfl⟩
  have r2' : RRd w2 R A B l 0 0 := by rw [← eA, ← eB]; exact r2
  have HBs : Hid (B ≤ w2.heap.size) := by show _ ≤ _; omega
  have CI' := CI.out R A B w2 r2'
  clear C51 r2 b2 hR CI Z1 eA eB r2'
  go_wp2_with fail
  refine CI'.mono ?_
  rintro e w3 ⟨rfl, r3, g3⟩
  have Z3 : Hid (Zef w w3) := Z2.out.grown g3 HR.out
  have R3 : Hid (RRd w3 R A B l p 0) := r3
  have LB : Hid (B ≤ w3.heap.size) := Nat.le_trans HBs.out g3.size
  obtain ⟨_, _, _, _, k2, _⟩ := r3.cells
  clear CI' r3 g3 Z2
  have f1 : Hid (FQ w (w3.alloc (.cells #[.int .i64 1, .int .i64 0, .int .i64 0, .int .i64 0, .string ⟨#[]⟩, .string ⟨#[]⟩, .int .i64 0, .string ⟨#[]⟩, .int .i64 0, .int .i64 0, .int .i64 0, .int .i64 0, .slice none 0 0, .slice none 0 0] 30)) R A B w3.heap.size l p 0 #[.int .i64 1, .int .i64 0, .int .i64 0, .int .i64 0, .string ⟨#[]⟩, .string ⟨#[]⟩, .int .i64 0, .string ⟨#[]⟩, .int .i64 0, .int .i64 0, .int .i64 0, .int .i64 0, .slice none 0 0, .slice none 0 0]) := ⟨R3.out.keep ((Below.refl _ w3).alloc (Nat.le_refl _) _), (Z3.out.below ((Below.refl _ w3).alloc (Nat.le_refl _) _)).z, heap_alloc_new w3 _, (Z3.out.below ((Below.refl _ w3).alloc (Nat.le_refl _) _)).bel, HR.out, R3.out.lt, LB.out⟩
  obtain ⟨w4, e4⟩ : ∃ w4, w3.alloc (.cells #[.int .i64 1, .int .i64 0, .int .i64 0, .int .i64 0, .string ⟨#[]⟩, .string ⟨#[]⟩, .int .i64 0, .string ⟨#[]⟩, .int .i64 0, .int .i64 0, .int .i64 0, .int .i64 0, .slice none 0 0, .slice none 0 0] 30) = w4 := ⟨_, rfl⟩
  rw [e4] at f1
  have E4 : Hid (_ = w4) := e4
  have EN : Hid (∃ N, w3.heap.size = N) := ⟨_, rfl⟩
  clear e4 Z3 LB
  go_wp2_with fail
  rw [E4.out]
  clear k2 E4 R3
  generalize w3.heap.size = N at *
  refine (C1.out R A B _ f1.out.rdr).mono ?_
  rintro e v1 ⟨vb, rfl, ob, lb, r1, g1⟩
  obtain ⟨ba, bc, rfl, _, _⟩ := row_form' ob
  have d1 : Hid (FQ w v1 R A B N l xp xy #[.int .i64 1, .int .i64 0, .int .i64 0, .int .i64 0, .string ⟨#[]⟩, .string ⟨#[]⟩, .int .i64 0, .string ⟨#[]⟩, .int .i64 0, .int .i64 0, .int .i64 0, .int .i64 0, .slice none 0 0, .slice none 0 0]) := f1.out.call r1 g1
  have c1 := (d1.out.cell 13).1
  have z1 := (d1.out.cell 13).2
  simp only [List.getElem?_toArray] at c1
  have f9 : Hid (FQ w (v1.setCell ⟨N, 13, none⟩ (.slice ba xl.length bc)) R A B N l xp xy #[.int .i64 1, .int .i64 0, .int .i64 0, .int .i64 0, .string ⟨#[]⟩, .string ⟨#[]⟩, .int .i64 0, .string ⟨#[]⟩, .int .i64 0, .int .i64 0, .int .i64 0, .int .i64 0, .slice none 0 0, .slice ba xl.length bc]) := d1.out.store 13 _
  have lbn := f1.out.lt
  have O9 : Hid ((v1.setCell ⟨N, 13, none⟩ (.slice ba xl.length bc)).ownsRow (N + 1) 5 1 (.slice ba xl.length bc) xl.length (cellsOf xl)) := owns_set (owns_mono' ob (by omega)) _ _ (by simp)
  clear r1 g1 C1 f1 d1 ob lb lbn
  obtain ⟨wX, eX⟩ : ∃ wX, v1.setCell ⟨N, 13, none⟩ (.slice ba xl.length bc) = wX := ⟨_, rfl⟩
  have f9' : FQ w wX R A B N l xp xy #[.int .i64 1, .int .i64 0, .int .i64 0, .int .i64 0, .string ⟨#[]⟩, .string ⟨#[]⟩, .int .i64 0, .string ⟨#[]⟩, .int .i64 0, .int .i64 0, .int .i64 0, .int .i64 0, .slice none 0 0, .slice ba xl.length bc] := by rw [← eX]; exact f9.out
  have O9' : wX.ownsRow (N + 1) 5 1 (.slice ba xl.length bc) xl.length (cellsOf xl) := by rw [← eX]; exact O9.out
  have EX : Hid (v1.setCell ⟨N, 13, none⟩ (.slice ba xl.length bc) = wX) := eX
  have CE := refREnd_any R A B l xp xy wX f9'.rdr
  clear eX f9 O9
  go_wp2_with fail
  rw [EX.out]
  refine CE.mono ?_
  rintro e w8 ⟨rfl, q, rfl⟩
  have f8 : FQ w (wX.drewN q) R A B N l xp xy #[.int .i64 1, .int .i64 0, .int .i64 0, .int .i64 0, .string ⟨#[]⟩, .string ⟨#[]⟩, .int .i64 0, .string ⟨#[]⟩, .int .i64 0, .int .i64 0, .int .i64 0, .int .i64 0, .slice none 0 0, .slice ba xl.length bc] := ⟨f9'.rdr.drawn q, f9'.old, f9'.new, below_drewN' f9'.bel q, f9'.tr, f9'.rn, f9'.bn⟩
  have NT : Hid (w.heap.size < N) := Nat.lt_trans f8.tr f8.rn
  have G1 : Hid _ := f8.old
  have G2 : Hid _ := f8.new
  have BZ : Hid (Zef w ((wX.drewN q).setRow w.heap.size #[.int .i64 0, .int .i64 0, .int .i64 0, .int .i64 0, .string ⟨#[]⟩, .string ⟨#[]⟩, .int .i64 0, .string ⟨#[]⟩, .int .i64 0, .int .i64 0, .int .i64 0, .int .i64 0, .slice none 0 0, .slice none 0 0])) := (Zef.mk f8.bel f8.old).row
  obtain ⟨q1, q2, q3⟩ := f8.done
  have Q1 : Hid _ := q1
  have Q2 : Hid _ := q2
  have Q3 : Hid (∀ k, k ≠ w.heap.size → ((wX.drewN q).setRow w.heap.size #[.int .i64 1, .int .i64 0, .int .i64 0, .int .i64 0, .string ⟨#[]⟩, .string ⟨#[]⟩, .int .i64 0, .string ⟨#[]⟩, .int .i64 0, .int .i64 0, .int .i64 0, .int .i64 0, .slice none 0 0, .slice ba xl.length bc]).heap[k]? = (wX.drewN q).heap[k]?) := q3
  have O8 : Hid ((wX.drewN q).ownsRow (N + 1) 5 1 (.slice ba xl.length bc) xl.length (cellsOf xl)) := O9'
  clear CE EX f9' f8 q1 q2 q3 O9'
  by_cases he : rEnd l xp xy = 0
  case neg =>
    have HP : Hid (unpackD l = (LetD.zero, rEnd l xp xy)) := HPE.out _ rfl he
    clear HPE HPO
    generalize rEnd l xp xy = y9 at *
    have he' : (((y9 : Nat) : Int) != 0) = true := by simp; omega
    clear he
    go_wp2_with (refine wpList_store_row rfl 30 (.tmp 2) (.tmp 74) rfl w.heap.size #[.int .i64 0, .int .i64 0, .int .i64 0, .int .i64 0, .string ⟨#[]⟩, .string ⟨#[]⟩, .int .i64 0, .string ⟨#[]⟩, .int .i64 0, .int .i64 0, .int .i64 0, .int .i64 0, .slice none 0 0, .slice none 0 0] rfl rfl 30 _ G1.out (by kernel_rfl) rfl (by simp [Value.oneCell']) ?_)
    exact bodyPost_ret (results_ctK rfl _ _ w.heap.size 30 _ (0, 0) _ rfl BZ.out.z Try.underlying30 rfl (by kernel_rfl)) rfl (unp_zero HP.out BZ.out.bel rfl)
  have HP : Hid _ := HPO.out he
  rw [he]
  clear HPE HPO he
  go_wp2_with (first
    | (refine wpList_load_row rfl 30 (.tmp 6) rfl N rfl 30 #[.int .i64 1, .int .i64 0, .int .i64 0, .int .i64 0, .string ⟨#[]⟩, .string ⟨#[]⟩, .int .i64 0, .string ⟨#[]⟩, .int .i64 0, .int .i64 0, .int .i64 0, .int .i64 0, .slice none 0 0, .slice ba xl.length bc] (0, 0) _ G2.out Try.underlying30 rfl (by kernel_rfl) ?_)
    | (refine wpList_store_row rfl 30 (.tmp 2) (.tmp 76) rfl w.heap.size #[.int .i64 1, .int .i64 0, .int .i64 0, .int .i64 0, .string ⟨#[]⟩, .string ⟨#[]⟩, .int .i64 0, .string ⟨#[]⟩, .int .i64 0, .int .i64 0, .int .i64 0, .int .i64 0, .slice none 0 0, .slice ba xl.length bc] rfl rfl 30 _ G1.out (by kernel_rfl) rfl (by simp [Value.oneCell']) ?_))
  exact bodyPost_ret (results_ctK rfl _ _ w.heap.size 30 _ (0, 0) _ rfl Q2.out Try.underlying30 rfl (by kernel_rfl)) rfl ⟨none, 0, ba, bc, by rw [HP.out]; rfl, by rw [HP.out]; exact ⟨owns_rows_none _ _, owns_mono' (ownsK O8.out fun g hg => Q3.out g (by have := (O8.out.lt _ hg).1; have := NT.out; omega)) (by have := NT.out; omega)⟩, Q1.out⟩
set_option maxRecDepth 100000 in
set_option maxHeartbeats 4000000 in
theorem refUnpack_2 (a : Option Addr) (cap : Nat) (l : List (BitVec 8)) (w : World) (h : Seen w a l.length l) (hnil : a = none → cap = 0) (h0 : ¬ 1048576 < l.length) (h1 : (rU l 0 0).2.2 = 0) (h2 : zag (rU l 0 0).1 = 2) :
    Calls Try.prog 16 #[.slice a l.length cap] w fun e w' => UnpTold w w' l e := by
  have z1 : Zef w (w.alloc (.cells #[.int .i64 0, .int .i64 0, .int .i64 0, .int .i64 0, .string ⟨#[]⟩, .string ⟨#[]⟩, .int .i64 0, .string ⟨#[]⟩, .int .i64 0, .int .i64 0, .int .i64 0, .int .i64 0, .slice none 0 0, .slice none 0 0] 30)) := ⟨(Below.refl _ w).alloc (Nat.le_refl _) _, heap_alloc_new w _⟩
  have Z1 : Hid (Zef w _) := z1
  have h0' : ¬ (1048576 : Int) < (l.length : Int) := by omega
  have C51 := refOf_any a l.length cap l (w.alloc (.cells #[.int .i64 0, .int .i64 0, .int .i64 0, .int .i64 0, .string ⟨#[]⟩, .string ⟨#[]⟩, .int .i64 0, .string ⟨#[]⟩, .int .i64 0, .int .i64 0, .int .i64 0, .int .i64 0, .slice none 0 0, .slice none 0 0] 30)) (h.below z1.bel) hnil (by omega)
  have HPE : Hid (∀ y9, rEnd l (readD l 2 (rU l 0 0).2.1 0).2.1 (readD l 2 (rU l 0 0).2.1 0).2.2 = y9 → y9 ≠ 0 → unpackD l = (LetD.zero, y9)) := fun y9 e hn => by
    subst e
    have := unpack_end h0 h1 (by rw [h2]; omega) (by rw [h2]; exact hn)
    rw [h2] at this
    exact this
  have HPO : Hid (rEnd l (readD l 2 (rU l 0 0).2.1 0).2.1 (readD l 2 (rU l 0 0).2.1 0).2.2 = 0 → unpackD l = ((readD l 2 (rU l 0 0).2.1 0).1, 0)) := fun e => by
    have := unpack_ok h0 h1 (by rw [h2]; omega) (by rw [h2]; exact e)
    rw [h2] at this
    exact this
  have CI : Hid (∀ (R A B : Nat) (W : World), RRd W R A B l 0 0 → Calls Try.prog 46 #[.pointer (some ⟨R, 0, none⟩)] W fun e w' => e = .returned (.int .i64 (zag (rU l 0 0).1)) ∧ RRd w' R A B l (rU l 0 0).2.1 (rU l 0 0).2.2 ∧ W.grownBy w' (some R)) := fun R A B W h => refRInt_any R A B l 0 0 W h
  generalize rU l 0 0 = X0 at *
  obtain ⟨m0, p, y0⟩ := X0
  simp only at HPE HPO CI h1 h2
  subst h1
  rw [h2] at CI
  rw [readD, if_neg (by decide), if_pos rfl] at HPE HPO
  have C1 : Hid (∀ (R A B : Nat) (W : World), RRd W R A B l p 0 → Calls Try.prog 46 #[.pointer (some ⟨R, 0, none⟩)] W fun e w' => e = .returned (.int .i64 (zag (rU l p 0).1)) ∧ RRd w' R A B l (rU l p 0).2.1 (rU l p 0).2.2 ∧ W.grownBy w' (some R)) := fun R A B W h => refRInt_any R A B l _ _ W h
  have C2 : Hid (∀ (R A B : Nat) (W : World), RRd W R A B l (rU l p 0).2.1 (rU l p 0).2.2 → B ≤ W.heap.size → Calls Try.prog 48 #[.pointer (some ⟨R, 0, none⟩)] W fun e w' => e = .returned (rOpV l (rU l p 0).2.1 (rU l p 0).2.2).val ∧ RRd w' R A B l (rOp7 l (rU l p 0).2.1 (rU l p 0).2.2).2.1 (rOp7 l (rU l p 0).2.1 (rU l p 0).2.2).2.2 ∧ W.grownBy w' (some R)) := fun R A B W h hb => refGetOp_any R A B l _ _ W h hb
  generalize rOpV l (rU l p 0).2.1 (rU l p 0).2.2 = OV at *
  generalize rOp7 l (rU l p 0).2.1 (rU l p 0).2.2 = X2 at *
  generalize rU l p 0 = X1 at *
  obtain ⟨m1, p1, y1⟩ := X1
  obtain ⟨xl, xp, xy⟩ := X2
  simp only at *
  generalize zag m1 = n1 at *
  obtain ⟨ok, os, od, oa, oy, ol, oh⟩ := OV
  simp only [OpD.val] at *
  have HY : Hid (∃ yy, rEnd l xp xy = yy) := ⟨_, rfl⟩
  clear h hnil h0 z1 h2
  go_enter Try.func16, Try.ntmps16
  go_wp2_with fail
  refine C51.mono ?_
  rintro e w2 ⟨R, rfl, hR, r2, b2⟩
  have HR : Hid (w.heap.size < R) := by show _ < _; simp at hR; omega
  have Z2 : Hid (Zef w w2) := Z1.out.below b2
  obtain ⟨A, eA⟩ : ∃ A, (w.alloc (.cells #[.int .i64 0, .int .i64 0, .int .i64 0, .int .i64 0, .string ⟨#[]⟩, .string ⟨#[]⟩, .int .i64 0, .string ⟨#[]⟩, .int .i64 0, .int .i64 0, .int .i64 0, .int .i64 0, .slice none 0 0, .slice none 0 0] 30)).heap.size = A := ⟨_, rfl⟩
  obtain ⟨B, eB⟩ : ∃ B, w2.heap.size = B := ⟨_, rfl⟩
  have r2' : RRd w2 R A B l 0 0 := by rw [← eA, ← eB]; exact r2
  have HBs : Hid (B ≤ w2.heap.size) := by show _ ≤ _; omega
  have CI' := CI.out R A B w2 r2'
  clear C51 r2 b2 hR CI Z1 eA eB r2'
  go_wp2_with fail
  refine CI'.mono ?_
  rintro e w3 ⟨rfl, r3, g3⟩
  have Z3 : Hid (Zef w w3) := Z2.out.grown g3 HR.out
  have R3 : Hid (RRd w3 R A B l p 0) := r3
  have LB : Hid (B ≤ w3.heap.size) := Nat.le_trans HBs.out g3.size
  obtain ⟨_, _, _, _, k2, _⟩ := r3.cells
  clear CI' r3 g3 Z2
  have f1 : Hid (FQ w (w3.alloc (.cells #[.int .i64 2, .int .i64 0, .int .i64 0, .int .i64 0, .string ⟨#[]⟩, .string ⟨#[]⟩, .int .i64 0, .string ⟨#[]⟩, .int .i64 0, .int .i64 0, .int .i64 0, .int .i64 0, .slice none 0 0, .slice none 0 0] 30)) R A B w3.heap.size l p 0 #[.int .i64 2, .int .i64 0, .int .i64 0, .int .i64 0, .string ⟨#[]⟩, .string ⟨#[]⟩, .int .i64 0, .string ⟨#[]⟩, .int .i64 0, .int .i64 0, .int .i64 0, .int .i64 0, .slice none 0 0, .slice none 0 0]) := ⟨R3.out.keep ((Below.refl _ w3).alloc (Nat.le_refl _) _), (Z3.out.below ((Below.refl _ w3).alloc (Nat.le_refl _) _)).z, heap_alloc_new w3 _, (Z3.out.below ((Below.refl _ w3).alloc (Nat.le_refl _) _)).bel, HR.out, R3.out.lt, LB.out⟩
  obtain ⟨w4, e4⟩ : ∃ w4, w3.alloc (.cells #[.int .i64 2, .int .i64 0, .int .i64 0, .int .i64 0, .string ⟨#[]⟩, .string ⟨#[]⟩, .int .i64 0, .string ⟨#[]⟩, .int .i64 0, .int .i64 0, .int .i64 0, .int .i64 0, .slice none 0 0, .slice none 0 0] 30) = w4 := ⟨_, rfl⟩
  rw [e4] at f1
  have E4 : Hid (_ = w4) := e4
  have EN : Hid (∃ N, w3.heap.size = N) := ⟨_, rfl⟩
  clear e4 Z3 LB
  go_wp2_with fail
  rw [E4.out]
  clear k2 E4 R3
  generalize w3.heap.size = N at *
  refine (C1.out R A B _ f1.out.rdr).mono ?_
  rintro e v1 ⟨rfl, r1, g1⟩
  have d1 : Hid (FQ w v1 R A B N l p1 y1 #[.int .i64 2, .int .i64 0, .int .i64 0, .int .i64 0, .string ⟨#[]⟩, .string ⟨#[]⟩, .int .i64 0, .string ⟨#[]⟩, .int .i64 0, .int .i64 0, .int .i64 0, .int .i64 0, .slice none 0 0, .slice none 0 0]) := f1.out.call r1 g1
  have c1 := (d1.out.cell 1).1
  have z1 := (d1.out.cell 1).2
  simp only [List.getElem?_toArray] at c1
  have f2 : Hid (FQ w (v1.setCell ⟨N, 1, none⟩ (.int .i64 n1)) R A B N l p1 y1 #[.int .i64 2, .int .i64 n1, .int .i64 0, .int .i64 0, .string ⟨#[]⟩, .string ⟨#[]⟩, .int .i64 0, .string ⟨#[]⟩, .int .i64 0, .int .i64 0, .int .i64 0, .int .i64 0, .slice none 0 0, .slice none 0 0]) := d1.out.store 1 _
  clear r1 g1 C1 f1 d1
  go_wp2_with fail
  refine (C2.out R A B _ f2.out.rdr (by have := f2.out.lt; have := f2.out.bn; omega)).mono ?_
  rintro e v2 ⟨rfl, r2, g2⟩
  have d2 : Hid (FQ w v2 R A B N l xp xy #[.int .i64 2, .int .i64 n1, .int .i64 0, .int .i64 0, .string ⟨#[]⟩, .string ⟨#[]⟩, .int .i64 0, .string ⟨#[]⟩, .int .i64 0, .int .i64 0, .int .i64 0, .int .i64 0, .slice none 0 0, .slice none 0 0]) := f2.out.call r2 g2
  have f9 : Hid (FQ w (v2.setCells N 3 [.int .i64 ok, .string os, .string od, .int .i64 oa, .string oy, .int .i64 ol, .int .i64 oh]) R A B N l xp xy #[.int .i64 2, .int .i64 n1, .int .i64 0, .int .i64 ok, .string os, .string od, .int .i64 oa, .string oy, .int .i64 ol, .int .i64 oh, .int .i64 0, .int .i64 0, .slice none 0 0, .slice none 0 0]) := by
    have hf := FQ.stores [.int .i64 ok, .string os, .string od, .int .i64 oa, .string oy, .int .i64 ol, .int .i64 oh] 3 _ _ d2.out
    rw [show setsL #[.int .i64 2, .int .i64 n1, .int .i64 0, .int .i64 0, .string ⟨#[]⟩, .string ⟨#[]⟩, .int .i64 0, .string ⟨#[]⟩, .int .i64 0, .int .i64 0, .int .i64 0, .int .i64 0, .slice none 0 0, .slice none 0 0] 3 [.int .i64 ok, .string os, .string od, .int .i64 oa, .string oy, .int .i64 ol, .int .i64 oh] = #[.int .i64 2, .int .i64 n1, .int .i64 0, .int .i64 ok, .string os, .string od, .int .i64 oa, .string oy, .int .i64 ol, .int .i64 oh, .int .i64 0, .int .i64 0, .slice none 0 0, .slice none 0 0] by kernel_rfl] at hf
    exact hf
  have TT : Hid _ := (d2.out.there 3 7 (by simp))
  clear r2 g2 C2 f2 d2
  obtain ⟨wX, eX⟩ : ∃ wX, v2.setCells N 3 (#[.int .i64 ok, .string os, .string od, .int .i64 oa, .string oy, .int .i64 ol, .int .i64 oh] : Array Value).toList = wX := ⟨_, rfl⟩
  have f9' : FQ w wX R A B N l xp xy #[.int .i64 2, .int .i64 n1, .int .i64 0, .int .i64 ok, .string os, .string od, .int .i64 oa, .string oy, .int .i64 ol, .int .i64 oh, .int .i64 0, .int .i64 0, .slice none 0 0, .slice none 0 0] := by rw [← eX]; exact f9.out

  have EX : Hid (v2.setCells N 3 (#[.int .i64 ok, .string os, .string od, .int .i64 oa, .string oy, .int .i64 ol, .int .i64 oh] : Array Value).toList = wX) := eX
  have CE := refREnd_any R A B l xp xy wX f9'.rdr
  clear eX f9 
  go_wp2_with (refine wpList_store_mid rfl 23 (.tmp 42) (.tmp 41) rfl N 3 #[.int .i64 ok, .string os, .string od, .int .i64 oa, .string oy, .int .i64 ol, .int .i64 oh] rfl rfl TT.out (by kernel_rfl) (by simp [Value.oneCell']) ?_; rw [EX.out])
  
  refine CE.mono ?_
  rintro e w8 ⟨rfl, q, rfl⟩
  have f8 : FQ w (wX.drewN q) R A B N l xp xy #[.int .i64 2, .int .i64 n1, .int .i64 0, .int .i64 ok, .string os, .string od, .int .i64 oa, .string oy, .int .i64 ol, .int .i64 oh, .int .i64 0, .int .i64 0, .slice none 0 0, .slice none 0 0] := ⟨f9'.rdr.drawn q, f9'.old, f9'.new, below_drewN' f9'.bel q, f9'.tr, f9'.rn, f9'.bn⟩
  have NT : Hid (w.heap.size < N) := Nat.lt_trans f8.tr f8.rn
  have G1 : Hid _ := f8.old
  have G2 : Hid _ := f8.new
  have BZ : Hid (Zef w ((wX.drewN q).setRow w.heap.size #[.int .i64 0, .int .i64 0, .int .i64 0, .int .i64 0, .string ⟨#[]⟩, .string ⟨#[]⟩, .int .i64 0, .string ⟨#[]⟩, .int .i64 0, .int .i64 0, .int .i64 0, .int .i64 0, .slice none 0 0, .slice none 0 0])) := (Zef.mk f8.bel f8.old).row
  obtain ⟨q1, q2, q3⟩ := f8.done
  have Q1 : Hid _ := q1
  have Q2 : Hid _ := q2
  have Q3 : Hid (∀ k, k ≠ w.heap.size → ((wX.drewN q).setRow w.heap.size #[.int .i64 2, .int .i64 n1, .int .i64 0, .int .i64 ok, .string os, .string od, .int .i64 oa, .string oy, .int .i64 ol, .int .i64 oh, .int .i64 0, .int .i64 0, .slice none 0 0, .slice none 0 0]).heap[k]? = (wX.drewN q).heap[k]?) := q3

  clear CE EX f9' f8 q1 q2 q3  TT
  by_cases he : rEnd l xp xy = 0
  case neg =>
    have HP : Hid (unpackD l = (LetD.zero, rEnd l xp xy)) := HPE.out _ rfl he
    clear HPE HPO
    generalize rEnd l xp xy = y9 at *
    have he' : (((y9 : Nat) : Int) != 0) = true := by simp; omega
    clear he
    go_wp2_with (refine wpList_store_row rfl 30 (.tmp 2) (.tmp 74) rfl w.heap.size #[.int .i64 0, .int .i64 0, .int .i64 0, .int .i64 0, .string ⟨#[]⟩, .string ⟨#[]⟩, .int .i64 0, .string ⟨#[]⟩, .int .i64 0, .int .i64 0, .int .i64 0, .int .i64 0, .slice none 0 0, .slice none 0 0] rfl rfl 30 _ G1.out (by kernel_rfl) rfl (by simp [Value.oneCell']) ?_)
    exact bodyPost_ret (results_ctK rfl _ _ w.heap.size 30 _ (0, 0) _ rfl BZ.out.z Try.underlying30 rfl (by kernel_rfl)) rfl (unp_zero HP.out BZ.out.bel rfl)
  have HP : Hid _ := HPO.out he
  rw [he]
  clear HPE HPO he
  go_wp2_with (first
    | (refine wpList_load_row rfl 30 (.tmp 6) rfl N rfl 30 #[.int .i64 2, .int .i64 n1, .int .i64 0, .int .i64 ok, .string os, .string od, .int .i64 oa, .string oy, .int .i64 ol, .int .i64 oh, .int .i64 0, .int .i64 0, .slice none 0 0, .slice none 0 0] (0, 0) _ G2.out Try.underlying30 rfl (by kernel_rfl) ?_)
    | (refine wpList_store_row rfl 30 (.tmp 2) (.tmp 76) rfl w.heap.size #[.int .i64 2, .int .i64 n1, .int .i64 0, .int .i64 ok, .string os, .string od, .int .i64 oa, .string oy, .int .i64 ol, .int .i64 oh, .int .i64 0, .int .i64 0, .slice none 0 0, .slice none 0 0] rfl rfl 30 _ G1.out (by kernel_rfl) rfl (by simp [Value.oneCell']) ?_))
  exact bodyPost_ret (results_ctK rfl _ _ w.heap.size 30 _ (0, 0) _ rfl Q2.out Try.underlying30 rfl (by kernel_rfl)) rfl ⟨none, 0, none, 0, by rw [HP.out]; rfl, by rw [HP.out]; exact ⟨owns_rows_none _ _, owns_none _ _⟩, Q1.out⟩
set_option maxRecDepth 100000 in
set_option maxHeartbeats 4000000 in
theorem refUnpack_3 (a : Option Addr) (cap : Nat) (l : List (BitVec 8)) (w : World) (h : Seen w a l.length l) (hnil : a = none → cap = 0) (h0 : ¬ 1048576 < l.length) (h1 : (rU l 0 0).2.2 = 0) (h2 : zag (rU l 0 0).1 = 3) :
    Calls Try.prog 16 #[.slice a l.length cap] w fun e w' => UnpTold w w' l e := by
  have z1 : Zef w (w.alloc (.cells #[.int .i64 0, .int .i64 0, .int .i64 0, .int .i64 0, .string ⟨#[]⟩, .string ⟨#[]⟩, .int .i64 0, .string ⟨#[]⟩, .int .i64 0, .int .i64 0, .int .i64 0, .int .i64 0, .slice none 0 0, .slice none 0 0] 30)) := ⟨(Below.refl _ w).alloc (Nat.le_refl _) _, heap_alloc_new w _⟩
  have Z1 : Hid (Zef w _) := z1
  have h0' : ¬ (1048576 : Int) < (l.length : Int) := by omega
  have C51 := refOf_any a l.length cap l (w.alloc (.cells #[.int .i64 0, .int .i64 0, .int .i64 0, .int .i64 0, .string ⟨#[]⟩, .string ⟨#[]⟩, .int .i64 0, .string ⟨#[]⟩, .int .i64 0, .int .i64 0, .int .i64 0, .int .i64 0, .slice none 0 0, .slice none 0 0] 30)) (h.below z1.bel) hnil (by omega)
  have HPE : Hid (∀ y9, rEnd l (readD l 3 (rU l 0 0).2.1 0).2.1 (readD l 3 (rU l 0 0).2.1 0).2.2 = y9 → y9 ≠ 0 → unpackD l = (LetD.zero, y9)) := fun y9 e hn => by
    subst e
    have := unpack_end h0 h1 (by rw [h2]; omega) (by rw [h2]; exact hn)
    rw [h2] at this
    exact this
  have HPO : Hid (rEnd l (readD l 3 (rU l 0 0).2.1 0).2.1 (readD l 3 (rU l 0 0).2.1 0).2.2 = 0 → unpackD l = ((readD l 3 (rU l 0 0).2.1 0).1, 0)) := fun e => by
    have := unpack_ok h0 h1 (by rw [h2]; omega) (by rw [h2]; exact e)
    rw [h2] at this
    exact this
  have CI : Hid (∀ (R A B : Nat) (W : World), RRd W R A B l 0 0 → Calls Try.prog 46 #[.pointer (some ⟨R, 0, none⟩)] W fun e w' => e = .returned (.int .i64 (zag (rU l 0 0).1)) ∧ RRd w' R A B l (rU l 0 0).2.1 (rU l 0 0).2.2 ∧ W.grownBy w' (some R)) := fun R A B W h => refRInt_any R A B l 0 0 W h
  generalize rU l 0 0 = X0 at *
  obtain ⟨m0, p, y0⟩ := X0
  simp only at HPE HPO CI h1 h2
  subst h1
  rw [h2] at CI
  rw [readD, if_neg (by decide), if_neg (by decide), if_pos rfl] at HPE HPO
  have C1 : Hid (∀ (R A B : Nat) (W : World), RRd W R A B l p 0 → Calls Try.prog 46 #[.pointer (some ⟨R, 0, none⟩)] W fun e w' => e = .returned (.int .i64 (zag (rU l p 0).1)) ∧ RRd w' R A B l (rU l p 0).2.1 (rU l p 0).2.2 ∧ W.grownBy w' (some R)) := fun R A B W h => refRInt_any R A B l _ _ W h
  have C2 : Hid (∀ (R A B : Nat) (W : World), RRd W R A B l (rU l p 0).2.1 (rU l p 0).2.2 → B ≤ W.heap.size → Calls Try.prog 49 #[.pointer (some ⟨R, 0, none⟩)] W fun e w' => ∃ za zn zc, e = .returned (.agg #[.int .i64 (zag (rRe1 l (rU l p 0).2.1 (rU l p 0).2.2).1), .int .i64 (zag (rRe2 l (rU l p 0).2.1 (rU l p 0).2.2).1), .slice za zn zc]) ∧ zn ≤ 600 ∧ (rRe4 l (rU l p 0).2.1 (rU l p 0).2.2).1.length = zn ∧ w'.ownsRow W.heap.size 69 2 (.slice za zn zc) zn (rowCells (rRe4 l (rU l p 0).2.1 (rU l p 0).2.2).1) ∧ RRd w' R A B l (rRe4 l (rU l p 0).2.1 (rU l p 0).2.2).2.1 (rRe4 l (rU l p 0).2.1 (rU l p 0).2.2).2.2 ∧ W.grownBy w' (some R)) := fun R A B W h hb => refGetReply_own R A B l _ _ W h hb
  generalize zag (rRe1 l (rU l p 0).2.1 (rU l p 0).2.2).1 = ry at *
  generalize zag (rRe2 l (rU l p 0).2.1 (rU l p 0).2.2).1 = rm at *
  generalize rRe4 l (rU l p 0).2.1 (rU l p 0).2.2 = X2 at *
  generalize rU l p 0 = X1 at *
  obtain ⟨m1, p1, y1⟩ := X1
  obtain ⟨xl, xp, xy⟩ := X2
  simp only at *
  generalize zag m1 = n1 at *
  have HY : Hid (∃ yy, rEnd l xp xy = yy) := ⟨_, rfl⟩
  clear h hnil h0 z1 h2
  go_enter Try.func16, Try.ntmps16
  go_wp2_with fail
  refine C51.mono ?_
  rintro e w2 ⟨R, rfl, hR, r2, b2⟩
  have HR : Hid (w.heap.size < R) := by show _ < _; simp at hR; omega
  have Z2 : Hid (Zef w w2) := Z1.out.below b2
  obtain ⟨A, eA⟩ : ∃ A, (w.alloc (.cells #[.int .i64 0, .int .i64 0, .int .i64 0, .int .i64 0, .string ⟨#[]⟩, .string ⟨#[]⟩, .int .i64 0, .string ⟨#[]⟩, .int .i64 0, .int .i64 0, .int .i64 0, .int .i64 0, .slice none 0 0, .slice none 0 0] 30)).heap.size = A := ⟨_, rfl⟩
  obtain ⟨B, eB⟩ : ∃ B, w2.heap.size = B := ⟨_, rfl⟩
  have r2' : RRd w2 R A B l 0 0 := by rw [← eA, ← eB]; exact r2
  have HBs : Hid (B ≤ w2.heap.size) := by show _ ≤ _; omega
  have CI' := CI.out R A B w2 r2'
  clear C51 r2 b2 hR CI Z1 eA eB r2'
  go_wp2_with fail
  refine CI'.mono ?_
  rintro e w3 ⟨rfl, r3, g3⟩
  have Z3 : Hid (Zef w w3) := Z2.out.grown g3 HR.out
  have R3 : Hid (RRd w3 R A B l p 0) := r3
  have LB : Hid (B ≤ w3.heap.size) := Nat.le_trans HBs.out g3.size
  obtain ⟨_, _, _, _, k2, _⟩ := r3.cells
  clear CI' r3 g3 Z2
  have f1 : Hid (FQ w (w3.alloc (.cells #[.int .i64 3, .int .i64 0, .int .i64 0, .int .i64 0, .string ⟨#[]⟩, .string ⟨#[]⟩, .int .i64 0, .string ⟨#[]⟩, .int .i64 0, .int .i64 0, .int .i64 0, .int .i64 0, .slice none 0 0, .slice none 0 0] 30)) R A B w3.heap.size l p 0 #[.int .i64 3, .int .i64 0, .int .i64 0, .int .i64 0, .string ⟨#[]⟩, .string ⟨#[]⟩, .int .i64 0, .string ⟨#[]⟩, .int .i64 0, .int .i64 0, .int .i64 0, .int .i64 0, .slice none 0 0, .slice none 0 0]) := ⟨R3.out.keep ((Below.refl _ w3).alloc (Nat.le_refl _) _), (Z3.out.below ((Below.refl _ w3).alloc (Nat.le_refl _) _)).z, heap_alloc_new w3 _, (Z3.out.below ((Below.refl _ w3).alloc (Nat.le_refl _) _)).bel, HR.out, R3.out.lt, LB.out⟩
  obtain ⟨w4, e4⟩ : ∃ w4, w3.alloc (.cells #[.int .i64 3, .int .i64 0, .int .i64 0, .int .i64 0, .string ⟨#[]⟩, .string ⟨#[]⟩, .int .i64 0, .string ⟨#[]⟩, .int .i64 0, .int .i64 0, .int .i64 0, .int .i64 0, .slice none 0 0, .slice none 0 0] 30) = w4 := ⟨_, rfl⟩
  rw [e4] at f1
  have E4 : Hid (_ = w4) := e4
  have EN : Hid (∃ N, w3.heap.size = N) := ⟨_, rfl⟩
  clear e4 Z3 LB
  go_wp2_with fail
  rw [E4.out]
  clear k2 E4 R3
  generalize w3.heap.size = N at *
  refine (C1.out R A B _ f1.out.rdr).mono ?_
  rintro e v1 ⟨rfl, r1, g1⟩
  have d1 : Hid (FQ w v1 R A B N l p1 y1 #[.int .i64 3, .int .i64 0, .int .i64 0, .int .i64 0, .string ⟨#[]⟩, .string ⟨#[]⟩, .int .i64 0, .string ⟨#[]⟩, .int .i64 0, .int .i64 0, .int .i64 0, .int .i64 0, .slice none 0 0, .slice none 0 0]) := f1.out.call r1 g1
  have c1 := (d1.out.cell 1).1
  have z1 := (d1.out.cell 1).2
  simp only [List.getElem?_toArray] at c1
  have f2 : Hid (FQ w (v1.setCell ⟨N, 1, none⟩ (.int .i64 n1)) R A B N l p1 y1 #[.int .i64 3, .int .i64 n1, .int .i64 0, .int .i64 0, .string ⟨#[]⟩, .string ⟨#[]⟩, .int .i64 0, .string ⟨#[]⟩, .int .i64 0, .int .i64 0, .int .i64 0, .int .i64 0, .slice none 0 0, .slice none 0 0]) := d1.out.store 1 _
  clear r1 g1 C1 f1 d1
  go_wp2_with fail
  refine (C2.out R A B _ f2.out.rdr (by have := f2.out.lt; have := f2.out.bn; omega)).mono ?_
  rintro e v2 ⟨ra, rn, rc, rfl, hn6, hln, orw, r2, g2⟩
  subst hln
  have d2 : Hid (FQ w v2 R A B N l xp xy #[.int .i64 3, .int .i64 n1, .int .i64 0, .int .i64 0, .string ⟨#[]⟩, .string ⟨#[]⟩, .int .i64 0, .string ⟨#[]⟩, .int .i64 0, .int .i64 0, .int .i64 0, .int .i64 0, .slice none 0 0, .slice none 0 0]) := f2.out.call r2 g2
  have lbn := f2.out.lt
  have f9 : Hid (FQ w (v2.setCells N 10 [.int .i64 ry, .int .i64 rm, .slice ra xl.length rc]) R A B N l xp xy #[.int .i64 3, .int .i64 n1, .int .i64 0, .int .i64 0, .string ⟨#[]⟩, .string ⟨#[]⟩, .int .i64 0, .string ⟨#[]⟩, .int .i64 0, .int .i64 0, .int .i64 ry, .int .i64 rm, .slice ra xl.length rc, .slice none 0 0]) := FQ.stores _ 10 _ _ d2.out
  have O9 : Hid ((v2.setCells N 10 [.int .i64 ry, .int .i64 rm, .slice ra xl.length rc]).ownsRow (N + 1) 69 2 (.slice ra xl.length rc) xl.length (rowCells xl)) := owns_setCells _ _ _ (owns_mono' orw (by omega)) (by simp)
  have TT : Hid _ := (d2.out.there 10 3 (by simp))
  clear r2 g2 C2 f2 d2 orw lbn hn6
  obtain ⟨wX, eX⟩ : ∃ wX, v2.setCells N 10 (#[.int .i64 ry, .int .i64 rm, .slice ra xl.length rc] : Array Value).toList = wX := ⟨_, rfl⟩
  have f9' : FQ w wX R A B N l xp xy #[.int .i64 3, .int .i64 n1, .int .i64 0, .int .i64 0, .string ⟨#[]⟩, .string ⟨#[]⟩, .int .i64 0, .string ⟨#[]⟩, .int .i64 0, .int .i64 0, .int .i64 ry, .int .i64 rm, .slice ra xl.length rc, .slice none 0 0] := by rw [← eX]; exact f9.out
  have O9' : wX.ownsRow (N + 1) 69 2 (.slice ra xl.length rc) xl.length (rowCells xl) := by rw [← eX]; exact O9.out
  have EX : Hid (v2.setCells N 10 (#[.int .i64 ry, .int .i64 rm, .slice ra xl.length rc] : Array Value).toList = wX) := eX
  have CE := refREnd_any R A B l xp xy wX f9'.rdr
  clear eX f9 O9
  go_wp2_with (refine wpList_store_mid rfl 27 (.tmp 50) (.tmp 49) rfl N 10 #[.int .i64 ry, .int .i64 rm, .slice ra xl.length rc] rfl rfl TT.out (by kernel_rfl) (by simp [Value.oneCell']) ?_; rw [EX.out])
  
  refine CE.mono ?_
  rintro e w8 ⟨rfl, q, rfl⟩
  have f8 : FQ w (wX.drewN q) R A B N l xp xy #[.int .i64 3, .int .i64 n1, .int .i64 0, .int .i64 0, .string ⟨#[]⟩, .string ⟨#[]⟩, .int .i64 0, .string ⟨#[]⟩, .int .i64 0, .int .i64 0, .int .i64 ry, .int .i64 rm, .slice ra xl.length rc, .slice none 0 0] := ⟨f9'.rdr.drawn q, f9'.old, f9'.new, below_drewN' f9'.bel q, f9'.tr, f9'.rn, f9'.bn⟩
  have NT : Hid (w.heap.size < N) := Nat.lt_trans f8.tr f8.rn
  have G1 : Hid _ := f8.old
  have G2 : Hid _ := f8.new
  have BZ : Hid (Zef w ((wX.drewN q).setRow w.heap.size #[.int .i64 0, .int .i64 0, .int .i64 0, .int .i64 0, .string ⟨#[]⟩, .string ⟨#[]⟩, .int .i64 0, .string ⟨#[]⟩, .int .i64 0, .int .i64 0, .int .i64 0, .int .i64 0, .slice none 0 0, .slice none 0 0])) := (Zef.mk f8.bel f8.old).row
  obtain ⟨q1, q2, q3⟩ := f8.done
  have Q1 : Hid _ := q1
  have Q2 : Hid _ := q2
  have Q3 : Hid (∀ k, k ≠ w.heap.size → ((wX.drewN q).setRow w.heap.size #[.int .i64 3, .int .i64 n1, .int .i64 0, .int .i64 0, .string ⟨#[]⟩, .string ⟨#[]⟩, .int .i64 0, .string ⟨#[]⟩, .int .i64 0, .int .i64 0, .int .i64 ry, .int .i64 rm, .slice ra xl.length rc, .slice none 0 0]).heap[k]? = (wX.drewN q).heap[k]?) := q3
  have O8 : Hid ((wX.drewN q).ownsRow (N + 1) 69 2 (.slice ra xl.length rc) xl.length (rowCells xl)) := O9'
  clear CE EX f9' f8 q1 q2 q3 O9' TT
  by_cases he : rEnd l xp xy = 0
  case neg =>
    have HP : Hid (unpackD l = (LetD.zero, rEnd l xp xy)) := HPE.out _ rfl he
    clear HPE HPO
    generalize rEnd l xp xy = y9 at *
    have he' : (((y9 : Nat) : Int) != 0) = true := by simp; omega
    clear he
    go_wp2_with (refine wpList_store_row rfl 30 (.tmp 2) (.tmp 74) rfl w.heap.size #[.int .i64 0, .int .i64 0, .int .i64 0, .int .i64 0, .string ⟨#[]⟩, .string ⟨#[]⟩, .int .i64 0, .string ⟨#[]⟩, .int .i64 0, .int .i64 0, .int .i64 0, .int .i64 0, .slice none 0 0, .slice none 0 0] rfl rfl 30 _ G1.out (by kernel_rfl) rfl (by simp [Value.oneCell']) ?_)
    exact bodyPost_ret (results_ctK rfl _ _ w.heap.size 30 _ (0, 0) _ rfl BZ.out.z Try.underlying30 rfl (by kernel_rfl)) rfl (unp_zero HP.out BZ.out.bel rfl)
  have HP : Hid _ := HPO.out he
  rw [he]
  clear HPE HPO he
  go_wp2_with (first
    | (refine wpList_load_row rfl 30 (.tmp 6) rfl N rfl 30 #[.int .i64 3, .int .i64 n1, .int .i64 0, .int .i64 0, .string ⟨#[]⟩, .string ⟨#[]⟩, .int .i64 0, .string ⟨#[]⟩, .int .i64 0, .int .i64 0, .int .i64 ry, .int .i64 rm, .slice ra xl.length rc, .slice none 0 0] (0, 0) _ G2.out Try.underlying30 rfl (by kernel_rfl) ?_)
    | (refine wpList_store_row rfl 30 (.tmp 2) (.tmp 76) rfl w.heap.size #[.int .i64 3, .int .i64 n1, .int .i64 0, .int .i64 0, .string ⟨#[]⟩, .string ⟨#[]⟩, .int .i64 0, .string ⟨#[]⟩, .int .i64 0, .int .i64 0, .int .i64 ry, .int .i64 rm, .slice ra xl.length rc, .slice none 0 0] rfl rfl 30 _ G1.out (by kernel_rfl) rfl (by simp [Value.oneCell']) ?_))
  exact bodyPost_ret (results_ctK rfl _ _ w.heap.size 30 _ (0, 0) _ rfl Q2.out Try.underlying30 rfl (by kernel_rfl)) rfl ⟨ra, rc, none, 0, by rw [HP.out]; rfl, by rw [HP.out]; exact ⟨owns_mono' (ownsK O8.out fun g hg => Q3.out g (by have := (O8.out.lt _ hg).1; have := NT.out; omega)) (by have := NT.out; omega), owns_none _ _⟩, Q1.out⟩
set_option maxRecDepth 100000 in
set_option maxHeartbeats 4000000 in
theorem refUnpack_4 (a : Option Addr) (cap : Nat) (l : List (BitVec 8)) (w : World) (h : Seen w a l.length l) (hnil : a = none → cap = 0) (h0 : ¬ 1048576 < l.length) (h1 : (rU l 0 0).2.2 = 0) (h2 : zag (rU l 0 0).1 = 4) :
    Calls Try.prog 16 #[.slice a l.length cap] w fun e w' => UnpTold w w' l e := by
  have z1 : Zef w (w.alloc (.cells #[.int .i64 0, .int .i64 0, .int .i64 0, .int .i64 0, .string ⟨#[]⟩, .string ⟨#[]⟩, .int .i64 0, .string ⟨#[]⟩, .int .i64 0, .int .i64 0, .int .i64 0, .int .i64 0, .slice none 0 0, .slice none 0 0] 30)) := ⟨(Below.refl _ w).alloc (Nat.le_refl _) _, heap_alloc_new w _⟩
  have Z1 : Hid (Zef w _) := z1
  have h0' : ¬ (1048576 : Int) < (l.length : Int) := by omega
  have C51 := refOf_any a l.length cap l (w.alloc (.cells #[.int .i64 0, .int .i64 0, .int .i64 0, .int .i64 0, .string ⟨#[]⟩, .string ⟨#[]⟩, .int .i64 0, .string ⟨#[]⟩, .int .i64 0, .int .i64 0, .int .i64 0, .int .i64 0, .slice none 0 0, .slice none 0 0] 30)) (h.below z1.bel) hnil (by omega)
  have HPE : Hid (∀ y9, rEnd l (readD l 4 (rU l 0 0).2.1 0).2.1 (readD l 4 (rU l 0 0).2.1 0).2.2 = y9 → y9 ≠ 0 → unpackD l = (LetD.zero, y9)) := fun y9 e hn => by
    subst e
    have := unpack_end h0 h1 (by rw [h2]; omega) (by rw [h2]; exact hn)
    rw [h2] at this
    exact this
  have HPO : Hid (rEnd l (readD l 4 (rU l 0 0).2.1 0).2.1 (readD l 4 (rU l 0 0).2.1 0).2.2 = 0 → unpackD l = ((readD l 4 (rU l 0 0).2.1 0).1, 0)) := fun e => by
    have := unpack_ok h0 h1 (by rw [h2]; omega) (by rw [h2]; exact e)
    rw [h2] at this
    exact this
  have CI : Hid (∀ (R A B : Nat) (W : World), RRd W R A B l 0 0 → Calls Try.prog 46 #[.pointer (some ⟨R, 0, none⟩)] W fun e w' => e = .returned (.int .i64 (zag (rU l 0 0).1)) ∧ RRd w' R A B l (rU l 0 0).2.1 (rU l 0 0).2.2 ∧ W.grownBy w' (some R)) := fun R A B W h => refRInt_any R A B l 0 0 W h
  generalize rU l 0 0 = X0 at *
  obtain ⟨m0, p, y0⟩ := X0
  simp only at HPE HPO CI h1 h2
  subst h1
  rw [h2] at CI
  rw [readD, if_neg (by decide), if_neg (by decide), if_neg (by decide), if_pos rfl] at HPE HPO
  have C1 : Hid (∀ (R A B : Nat) (W : World), RRd W R A B l p 0 → Calls Try.prog 46 #[.pointer (some ⟨R, 0, none⟩)] W fun e w' => e = .returned (.int .i64 (zag (rU l p 0).1)) ∧ RRd w' R A B l (rU l p 0).2.1 (rU l p 0).2.2 ∧ W.grownBy w' (some R)) := fun R A B W h => refRInt_any R A B l _ _ W h
  have C2 : Hid (∀ (R A B : Nat) (W : World), RRd W R A B l (rU l p 0).2.1 (rU l p 0).2.2 → Calls Try.prog 47 #[.pointer (some ⟨R, 0, none⟩)] W fun e w' => ∃ v, e = .returned v ∧ w'.ownsRow W.heap.size 5 1 v (rS l (rU l p 0).2.1 (rU l p 0).2.2).1.length (cellsOf (rS l (rU l p 0).2.1 (rU l p 0).2.2).1) ∧ (rS l (rU l p 0).2.1 (rU l p 0).2.2).1.length ≤ 65536 ∧ RRd w' R A B l (rS l (rU l p 0).2.1 (rU l p 0).2.2).2.1 (rS l (rU l p 0).2.1 (rU l p 0).2.2).2.2 ∧ W.grownBy w' (some R)) := fun R A B W h => refRBytes_any R A B l _ _ W h
  generalize rS l (rU l p 0).2.1 (rU l p 0).2.2 = X2 at *
  generalize rU l p 0 = X1 at *
  obtain ⟨m1, p1, y1⟩ := X1
  obtain ⟨xl, xp, xy⟩ := X2
  simp only at *
  generalize zag m1 = n1 at *
  have HY : Hid (∃ yy, rEnd l xp xy = yy) := ⟨_, rfl⟩
  clear h hnil h0 z1 h2
  go_enter Try.func16, Try.ntmps16
  go_wp2_with fail
  refine C51.mono ?_
  rintro e w2 ⟨R, rfl, hR, r2, b2⟩
  have HR : Hid (w.heap.size < R) := by show _ < _; simp at hR; omega
  have Z2 : Hid (Zef w w2) := Z1.out.below b2
  obtain ⟨A, eA⟩ : ∃ A, (w.alloc (.cells #[.int .i64 0, .int .i64 0, .int .i64 0, .int .i64 0, .string ⟨#[]⟩, .string ⟨#[]⟩, .int .i64 0, .string ⟨#[]⟩, .int .i64 0, .int .i64 0, .int .i64 0, .int .i64 0, .slice none 0 0, .slice none 0 0] 30)).heap.size = A := ⟨_, rfl⟩
  obtain ⟨B, eB⟩ : ∃ B, w2.heap.size = B := ⟨_, rfl⟩
  have r2' : RRd w2 R A B l 0 0 := by rw [← eA, ← eB]; exact r2
  have HBs : Hid (B ≤ w2.heap.size) := by show _ ≤ _; omega
  have CI' := CI.out R A B w2 r2'
  clear C51 r2 b2 hR CI Z1 eA eB r2'
  go_wp2_with fail
  refine CI'.mono ?_
  rintro e w3 ⟨rfl, r3, g3⟩
  have Z3 : Hid (Zef w w3) := Z2.out.grown g3 HR.out
  have R3 : Hid (RRd w3 R A B l p 0) := r3
  have LB : Hid (B ≤ w3.heap.size) := Nat.le_trans HBs.out g3.size
  obtain ⟨_, _, _, _, k2, _⟩ := r3.cells
  clear CI' r3 g3 Z2
  have f1 : Hid (FQ w (w3.alloc (.cells #[.int .i64 4, .int .i64 0, .int .i64 0, .int .i64 0, .string ⟨#[]⟩, .string ⟨#[]⟩, .int .i64 0, .string ⟨#[]⟩, .int .i64 0, .int .i64 0, .int .i64 0, .int .i64 0, .slice none 0 0, .slice none 0 0] 30)) R A B w3.heap.size l p 0 #[.int .i64 4, .int .i64 0, .int .i64 0, .int .i64 0, .string ⟨#[]⟩, .string ⟨#[]⟩, .int .i64 0, .string ⟨#[]⟩, .int .i64 0, .int .i64 0, .int .i64 0, .int .i64 0, .slice none 0 0, .slice none 0 0]) := ⟨R3.out.keep ((Below.refl _ w3).alloc (Nat.le_refl _) _), (Z3.out.below ((Below.refl _ w3).alloc (Nat.le_refl _) _)).z, heap_alloc_new w3 _, (Z3.out.below ((Below.refl _ w3).alloc (Nat.le_refl _) _)).bel, HR.out, R3.out.lt, LB.out⟩
  obtain ⟨w4, e4⟩ : ∃ w4, w3.alloc (.cells #[.int .i64 4, .int .i64 0, .int .i64 0, .int .i64 0, .string ⟨#[]⟩, .string ⟨#[]⟩, .int .i64 0, .string ⟨#[]⟩, .int .i64 0, .int .i64 0, .int .i64 0, .int .i64 0, .slice none 0 0, .slice none 0 0] 30) = w4 := ⟨_, rfl⟩
  rw [e4] at f1
  have E4 : Hid (_ = w4) := e4
  have EN : Hid (∃ N, w3.heap.size = N) := ⟨_, rfl⟩
  clear e4 Z3 LB
  go_wp2_with fail
  rw [E4.out]
  clear k2 E4 R3
  generalize w3.heap.size = N at *
  refine (C1.out R A B _ f1.out.rdr).mono ?_
  rintro e v1 ⟨rfl, r1, g1⟩
  have d1 : Hid (FQ w v1 R A B N l p1 y1 #[.int .i64 4, .int .i64 0, .int .i64 0, .int .i64 0, .string ⟨#[]⟩, .string ⟨#[]⟩, .int .i64 0, .string ⟨#[]⟩, .int .i64 0, .int .i64 0, .int .i64 0, .int .i64 0, .slice none 0 0, .slice none 0 0]) := f1.out.call r1 g1
  have c1 := (d1.out.cell 1).1
  have z1 := (d1.out.cell 1).2
  simp only [List.getElem?_toArray] at c1
  have f2 : Hid (FQ w (v1.setCell ⟨N, 1, none⟩ (.int .i64 n1)) R A B N l p1 y1 #[.int .i64 4, .int .i64 n1, .int .i64 0, .int .i64 0, .string ⟨#[]⟩, .string ⟨#[]⟩, .int .i64 0, .string ⟨#[]⟩, .int .i64 0, .int .i64 0, .int .i64 0, .int .i64 0, .slice none 0 0, .slice none 0 0]) := d1.out.store 1 _
  clear r1 g1 C1 f1 d1
  go_wp2_with fail
  refine (C2.out R A B _ f2.out.rdr).mono ?_
  rintro e v2 ⟨vb, rfl, ob, lb, r2, g2⟩
  obtain ⟨ba, bc, rfl, _, _⟩ := row_form' ob
  have d2 : Hid (FQ w v2 R A B N l xp xy #[.int .i64 4, .int .i64 n1, .int .i64 0, .int .i64 0, .string ⟨#[]⟩, .string ⟨#[]⟩, .int .i64 0, .string ⟨#[]⟩, .int .i64 0, .int .i64 0, .int .i64 0, .int .i64 0, .slice none 0 0, .slice none 0 0]) := f2.out.call r2 g2
  have c2 := (d2.out.cell 13).1
  have z2 := (d2.out.cell 13).2
  simp only [List.getElem?_toArray] at c2
  have f9 : Hid (FQ w (v2.setCell ⟨N, 13, none⟩ (.slice ba xl.length bc)) R A B N l xp xy #[.int .i64 4, .int .i64 n1, .int .i64 0, .int .i64 0, .string ⟨#[]⟩, .string ⟨#[]⟩, .int .i64 0, .string ⟨#[]⟩, .int .i64 0, .int .i64 0, .int .i64 0, .int .i64 0, .slice none 0 0, .slice ba xl.length bc]) := d2.out.store 13 _
  have lbn := f2.out.lt
  have O9 : Hid ((v2.setCell ⟨N, 13, none⟩ (.slice ba xl.length bc)).ownsRow (N + 1) 5 1 (.slice ba xl.length bc) xl.length (cellsOf xl)) := owns_set (owns_mono' ob (by omega)) _ _ (by simp)
  clear r2 g2 C2 f2 d2 ob lb lbn
  obtain ⟨wX, eX⟩ : ∃ wX, v2.setCell ⟨N, 13, none⟩ (.slice ba xl.length bc) = wX := ⟨_, rfl⟩
  have f9' : FQ w wX R A B N l xp xy #[.int .i64 4, .int .i64 n1, .int .i64 0, .int .i64 0, .string ⟨#[]⟩, .string ⟨#[]⟩, .int .i64 0, .string ⟨#[]⟩, .int .i64 0, .int .i64 0, .int .i64 0, .int .i64 0, .slice none 0 0, .slice ba xl.length bc] := by rw [← eX]; exact f9.out
  have O9' : wX.ownsRow (N + 1) 5 1 (.slice ba xl.length bc) xl.length (cellsOf xl) := by rw [← eX]; exact O9.out
  have EX : Hid (v2.setCell ⟨N, 13, none⟩ (.slice ba xl.length bc) = wX) := eX
  have CE := refREnd_any R A B l xp xy wX f9'.rdr
  clear eX f9 O9
  go_wp2_with fail
  rw [EX.out]
  refine CE.mono ?_
  rintro e w8 ⟨rfl, q, rfl⟩
  have f8 : FQ w (wX.drewN q) R A B N l xp xy #[.int .i64 4, .int .i64 n1, .int .i64 0, .int .i64 0, .string ⟨#[]⟩, .string ⟨#[]⟩, .int .i64 0, .string ⟨#[]⟩, .int .i64 0, .int .i64 0, .int .i64 0, .int .i64 0, .slice none 0 0, .slice ba xl.length bc] := ⟨f9'.rdr.drawn q, f9'.old, f9'.new, below_drewN' f9'.bel q, f9'.tr, f9'.rn, f9'.bn⟩
  have NT : Hid (w.heap.size < N) := Nat.lt_trans f8.tr f8.rn
  have G1 : Hid _ := f8.old
  have G2 : Hid _ := f8.new
  have BZ : Hid (Zef w ((wX.drewN q).setRow w.heap.size #[.int .i64 0, .int .i64 0, .int .i64 0, .int .i64 0, .string ⟨#[]⟩, .string ⟨#[]⟩, .int .i64 0, .string ⟨#[]⟩, .int .i64 0, .int .i64 0, .int .i64 0, .int .i64 0, .slice none 0 0, .slice none 0 0])) := (Zef.mk f8.bel f8.old).row
  obtain ⟨q1, q2, q3⟩ := f8.done
  have Q1 : Hid _ := q1
  have Q2 : Hid _ := q2
  have Q3 : Hid (∀ k, k ≠ w.heap.size → ((wX.drewN q).setRow w.heap.size #[.int .i64 4, .int .i64 n1, .int .i64 0, .int .i64 0, .string ⟨#[]⟩, .string ⟨#[]⟩, .int .i64 0, .string ⟨#[]⟩, .int .i64 0, .int .i64 0, .int .i64 0, .int .i64 0, .slice none 0 0, .slice ba xl.length bc]).heap[k]? = (wX.drewN q).heap[k]?) := q3
  have O8 : Hid ((wX.drewN q).ownsRow (N + 1) 5 1 (.slice ba xl.length bc) xl.length (cellsOf xl)) := O9'
  clear CE EX f9' f8 q1 q2 q3 O9'
  by_cases he : rEnd l xp xy = 0
  case neg =>
    have HP : Hid (unpackD l = (LetD.zero, rEnd l xp xy)) := HPE.out _ rfl he
    clear HPE HPO
    generalize rEnd l xp xy = y9 at *
    have he' : (((y9 : Nat) : Int) != 0) = true := by simp; omega
    clear he
    go_wp2_with (refine wpList_store_row rfl 30 (.tmp 2) (.tmp 74) rfl w.heap.size #[.int .i64 0, .int .i64 0, .int .i64 0, .int .i64 0, .string ⟨#[]⟩, .string ⟨#[]⟩, .int .i64 0, .string ⟨#[]⟩, .int .i64 0, .int .i64 0, .int .i64 0, .int .i64 0, .slice none 0 0, .slice none 0 0] rfl rfl 30 _ G1.out (by kernel_rfl) rfl (by simp [Value.oneCell']) ?_)
    exact bodyPost_ret (results_ctK rfl _ _ w.heap.size 30 _ (0, 0) _ rfl BZ.out.z Try.underlying30 rfl (by kernel_rfl)) rfl (unp_zero HP.out BZ.out.bel rfl)
  have HP : Hid _ := HPO.out he
  rw [he]
  clear HPE HPO he
  go_wp2_with (first
    | (refine wpList_load_row rfl 30 (.tmp 6) rfl N rfl 30 #[.int .i64 4, .int .i64 n1, .int .i64 0, .int .i64 0, .string ⟨#[]⟩, .string ⟨#[]⟩, .int .i64 0, .string ⟨#[]⟩, .int .i64 0, .int .i64 0, .int .i64 0, .int .i64 0, .slice none 0 0, .slice ba xl.length bc] (0, 0) _ G2.out Try.underlying30 rfl (by kernel_rfl) ?_)
    | (refine wpList_store_row rfl 30 (.tmp 2) (.tmp 76) rfl w.heap.size #[.int .i64 4, .int .i64 n1, .int .i64 0, .int .i64 0, .string ⟨#[]⟩, .string ⟨#[]⟩, .int .i64 0, .string ⟨#[]⟩, .int .i64 0, .int .i64 0, .int .i64 0, .int .i64 0, .slice none 0 0, .slice ba xl.length bc] rfl rfl 30 _ G1.out (by kernel_rfl) rfl (by simp [Value.oneCell']) ?_))
  exact bodyPost_ret (results_ctK rfl _ _ w.heap.size 30 _ (0, 0) _ rfl Q2.out Try.underlying30 rfl (by kernel_rfl)) rfl ⟨none, 0, ba, bc, by rw [HP.out]; rfl, by rw [HP.out]; exact ⟨owns_rows_none _ _, owns_mono' (ownsK O8.out fun g hg => Q3.out g (by have := (O8.out.lt _ hg).1; have := NT.out; omega)) (by have := NT.out; omega)⟩, Q1.out⟩
set_option maxRecDepth 100000 in
set_option maxHeartbeats 4000000 in
theorem refUnpack_5 (a : Option Addr) (cap : Nat) (l : List (BitVec 8)) (w : World) (h : Seen w a l.length l) (hnil : a = none → cap = 0) (h0 : ¬ 1048576 < l.length) (h1 : (rU l 0 0).2.2 = 0) (h2 : zag (rU l 0 0).1 = 5) :
    Calls Try.prog 16 #[.slice a l.length cap] w fun e w' => UnpTold w w' l e := by
  have z1 : Zef w (w.alloc (.cells #[.int .i64 0, .int .i64 0, .int .i64 0, .int .i64 0, .string ⟨#[]⟩, .string ⟨#[]⟩, .int .i64 0, .string ⟨#[]⟩, .int .i64 0, .int .i64 0, .int .i64 0, .int .i64 0, .slice none 0 0, .slice none 0 0] 30)) := ⟨(Below.refl _ w).alloc (Nat.le_refl _) _, heap_alloc_new w _⟩
  have Z1 : Hid (Zef w _) := z1
  have h0' : ¬ (1048576 : Int) < (l.length : Int) := by omega
  have C51 := refOf_any a l.length cap l (w.alloc (.cells #[.int .i64 0, .int .i64 0, .int .i64 0, .int .i64 0, .string ⟨#[]⟩, .string ⟨#[]⟩, .int .i64 0, .string ⟨#[]⟩, .int .i64 0, .int .i64 0, .int .i64 0, .int .i64 0, .slice none 0 0, .slice none 0 0] 30)) (h.below z1.bel) hnil (by omega)
  have HPE : Hid (∀ y9, rEnd l (readD l 5 (rU l 0 0).2.1 0).2.1 (readD l 5 (rU l 0 0).2.1 0).2.2 = y9 → y9 ≠ 0 → unpackD l = (LetD.zero, y9)) := fun y9 e hn => by
    subst e
    have := unpack_end h0 h1 (by rw [h2]; omega) (by rw [h2]; exact hn)
    rw [h2] at this
    exact this
  have HPO : Hid (rEnd l (readD l 5 (rU l 0 0).2.1 0).2.1 (readD l 5 (rU l 0 0).2.1 0).2.2 = 0 → unpackD l = ((readD l 5 (rU l 0 0).2.1 0).1, 0)) := fun e => by
    have := unpack_ok h0 h1 (by rw [h2]; omega) (by rw [h2]; exact e)
    rw [h2] at this
    exact this
  have CI : Hid (∀ (R A B : Nat) (W : World), RRd W R A B l 0 0 → Calls Try.prog 46 #[.pointer (some ⟨R, 0, none⟩)] W fun e w' => e = .returned (.int .i64 (zag (rU l 0 0).1)) ∧ RRd w' R A B l (rU l 0 0).2.1 (rU l 0 0).2.2 ∧ W.grownBy w' (some R)) := fun R A B W h => refRInt_any R A B l 0 0 W h
  generalize rU l 0 0 = X0 at *
  obtain ⟨m0, p, y0⟩ := X0
  simp only at HPE HPO CI h1 h2
  subst h1
  rw [h2] at CI
  rw [readD, if_neg (by decide), if_neg (by decide), if_neg (by decide), if_neg (by decide)] at HPE HPO
  have C1 : Hid (∀ (R A B : Nat) (W : World), RRd W R A B l p 0 → Calls Try.prog 46 #[.pointer (some ⟨R, 0, none⟩)] W fun e w' => e = .returned (.int .i64 (zag (rU l p 0).1)) ∧ RRd w' R A B l (rU l p 0).2.1 (rU l p 0).2.2 ∧ W.grownBy w' (some R)) := fun R A B W h => refRInt_any R A B l _ _ W h
  have C2 : Hid (∀ (R A B : Nat) (W : World), RRd W R A B l (rU l p 0).2.1 (rU l p 0).2.2 → Calls Try.prog 46 #[.pointer (some ⟨R, 0, none⟩)] W fun e w' => e = .returned (.int .i64 (zag (rU l (rU l p 0).2.1 (rU l p 0).2.2).1)) ∧ RRd w' R A B l (rU l (rU l p 0).2.1 (rU l p 0).2.2).2.1 (rU l (rU l p 0).2.1 (rU l p 0).2.2).2.2 ∧ W.grownBy w' (some R)) := fun R A B W h => refRInt_any R A B l _ _ W h
  have C3 : Hid (∀ (R A B : Nat) (W : World), RRd W R A B l (rU l (rU l p 0).2.1 (rU l p 0).2.2).2.1 (rU l (rU l p 0).2.1 (rU l p 0).2.2).2.2 → Calls Try.prog 47 #[.pointer (some ⟨R, 0, none⟩)] W fun e w' => ∃ v, e = .returned v ∧ w'.ownsRow W.heap.size 5 1 v (rS l (rU l (rU l p 0).2.1 (rU l p 0).2.2).2.1 (rU l (rU l p 0).2.1 (rU l p 0).2.2).2.2).1.length (cellsOf (rS l (rU l (rU l p 0).2.1 (rU l p 0).2.2).2.1 (rU l (rU l p 0).2.1 (rU l p 0).2.2).2.2).1) ∧ (rS l (rU l (rU l p 0).2.1 (rU l p 0).2.2).2.1 (rU l (rU l p 0).2.1 (rU l p 0).2.2).2.2).1.length ≤ 65536 ∧ RRd w' R A B l (rS l (rU l (rU l p 0).2.1 (rU l p 0).2.2).2.1 (rU l (rU l p 0).2.1 (rU l p 0).2.2).2.2).2.1 (rS l (rU l (rU l p 0).2.1 (rU l p 0).2.2).2.1 (rU l (rU l p 0).2.1 (rU l p 0).2.2).2.2).2.2 ∧ W.grownBy w' (some R)) := fun R A B W h => refRBytes_any R A B l _ _ W h
  generalize rS l (rU l (rU l p 0).2.1 (rU l p 0).2.2).2.1 (rU l (rU l p 0).2.1 (rU l p 0).2.2).2.2 = X3 at *
  generalize rU l (rU l p 0).2.1 (rU l p 0).2.2 = X2 at *
  generalize rU l p 0 = X1 at *
  obtain ⟨m1, p1, y1⟩ := X1
  obtain ⟨m2, p2, y2⟩ := X2
  obtain ⟨xl, xp, xy⟩ := X3
  simp only at *
  generalize zag m1 = n1 at *
  generalize zag m2 = g1 at *
  have HY : Hid (∃ yy, rEnd l xp xy = yy) := ⟨_, rfl⟩
  clear h hnil h0 z1 h2
  go_enter Try.func16, Try.ntmps16
  go_wp2_with fail
  refine C51.mono ?_
  rintro e w2 ⟨R, rfl, hR, r2, b2⟩
  have HR : Hid (w.heap.size < R) := by show _ < _; simp at hR; omega
  have Z2 : Hid (Zef w w2) := Z1.out.below b2
  obtain ⟨A, eA⟩ : ∃ A, (w.alloc (.cells #[.int .i64 0, .int .i64 0, .int .i64 0, .int .i64 0, .string ⟨#[]⟩, .string ⟨#[]⟩, .int .i64 0, .string ⟨#[]⟩, .int .i64 0, .int .i64 0, .int .i64 0, .int .i64 0, .slice none 0 0, .slice none 0 0] 30)).heap.size = A := ⟨_, rfl⟩
  obtain ⟨B, eB⟩ : ∃ B, w2.heap.size = B := ⟨_, rfl⟩
  have r2' : RRd w2 R A B l 0 0 := by rw [← eA, ← eB]; exact r2
  have HBs : Hid (B ≤ w2.heap.size) := by show _ ≤ _; omega
  have CI' := CI.out R A B w2 r2'
  clear C51 r2 b2 hR CI Z1 eA eB r2'
  go_wp2_with fail
  refine CI'.mono ?_
  rintro e w3 ⟨rfl, r3, g3⟩
  have Z3 : Hid (Zef w w3) := Z2.out.grown g3 HR.out
  have R3 : Hid (RRd w3 R A B l p 0) := r3
  have LB : Hid (B ≤ w3.heap.size) := Nat.le_trans HBs.out g3.size
  obtain ⟨_, _, _, _, k2, _⟩ := r3.cells
  clear CI' r3 g3 Z2
  have f1 : Hid (FQ w (w3.alloc (.cells #[.int .i64 5, .int .i64 0, .int .i64 0, .int .i64 0, .string ⟨#[]⟩, .string ⟨#[]⟩, .int .i64 0, .string ⟨#[]⟩, .int .i64 0, .int .i64 0, .int .i64 0, .int .i64 0, .slice none 0 0, .slice none 0 0] 30)) R A B w3.heap.size l p 0 #[.int .i64 5, .int .i64 0, .int .i64 0, .int .i64 0, .string ⟨#[]⟩, .string ⟨#[]⟩, .int .i64 0, .string ⟨#[]⟩, .int .i64 0, .int .i64 0, .int .i64 0, .int .i64 0, .slice none 0 0, .slice none 0 0]) := ⟨R3.out.keep ((Below.refl _ w3).alloc (Nat.le_refl _) _), (Z3.out.below ((Below.refl _ w3).alloc (Nat.le_refl _) _)).z, heap_alloc_new w3 _, (Z3.out.below ((Below.refl _ w3).alloc (Nat.le_refl _) _)).bel, HR.out, R3.out.lt, LB.out⟩
  obtain ⟨w4, e4⟩ : ∃ w4, w3.alloc (.cells #[.int .i64 5, .int .i64 0, .int .i64 0, .int .i64 0, .string ⟨#[]⟩, .string ⟨#[]⟩, .int .i64 0, .string ⟨#[]⟩, .int .i64 0, .int .i64 0, .int .i64 0, .int .i64 0, .slice none 0 0, .slice none 0 0] 30) = w4 := ⟨_, rfl⟩
  rw [e4] at f1
  have E4 : Hid (_ = w4) := e4
  have EN : Hid (∃ N, w3.heap.size = N) := ⟨_, rfl⟩
  clear e4 Z3 LB
  go_wp2_with fail
  rw [E4.out]
  clear k2 E4 R3
  generalize w3.heap.size = N at *
  refine (C1.out R A B _ f1.out.rdr).mono ?_
  rintro e v1 ⟨rfl, r1, g1⟩
  have d1 : Hid (FQ w v1 R A B N l p1 y1 #[.int .i64 5, .int .i64 0, .int .i64 0, .int .i64 0, .string ⟨#[]⟩, .string ⟨#[]⟩, .int .i64 0, .string ⟨#[]⟩, .int .i64 0, .int .i64 0, .int .i64 0, .int .i64 0, .slice none 0 0, .slice none 0 0]) := f1.out.call r1 g1
  have c1 := (d1.out.cell 1).1
  have z1 := (d1.out.cell 1).2
  simp only [List.getElem?_toArray] at c1
  have f2 : Hid (FQ w (v1.setCell ⟨N, 1, none⟩ (.int .i64 n1)) R A B N l p1 y1 #[.int .i64 5, .int .i64 n1, .int .i64 0, .int .i64 0, .string ⟨#[]⟩, .string ⟨#[]⟩, .int .i64 0, .string ⟨#[]⟩, .int .i64 0, .int .i64 0, .int .i64 0, .int .i64 0, .slice none 0 0, .slice none 0 0]) := d1.out.store 1 _
  clear r1 g1 C1 f1 d1
  go_wp2_with fail
  refine (C2.out R A B _ f2.out.rdr).mono ?_
  rintro e v2 ⟨rfl, r2, g2⟩
  have d2 : Hid (FQ w v2 R A B N l p2 y2 #[.int .i64 5, .int .i64 n1, .int .i64 0, .int .i64 0, .string ⟨#[]⟩, .string ⟨#[]⟩, .int .i64 0, .string ⟨#[]⟩, .int .i64 0, .int .i64 0, .int .i64 0, .int .i64 0, .slice none 0 0, .slice none 0 0]) := f2.out.call r2 g2
  have c2 := (d2.out.cell 2).1
  have z2 := (d2.out.cell 2).2
  simp only [List.getElem?_toArray] at c2
  have f3 : Hid (FQ w (v2.setCell ⟨N, 2, none⟩ (.int .i64 g1)) R A B N l p2 y2 #[.int .i64 5, .int .i64 n1, .int .i64 g1, .int .i64 0, .string ⟨#[]⟩, .string ⟨#[]⟩, .int .i64 0, .string ⟨#[]⟩, .int .i64 0, .int .i64 0, .int .i64 0, .int .i64 0, .slice none 0 0, .slice none 0 0]) := d2.out.store 2 _
  clear r2 g2 C2 f2 d2
  go_wp2_with fail
  refine (C3.out R A B _ f3.out.rdr).mono ?_
  rintro e v3 ⟨vb, rfl, ob, lb, r3, g3⟩
  obtain ⟨ba, bc, rfl, _, _⟩ := row_form' ob
  have d3 : Hid (FQ w v3 R A B N l xp xy #[.int .i64 5, .int .i64 n1, .int .i64 g1, .int .i64 0, .string ⟨#[]⟩, .string ⟨#[]⟩, .int .i64 0, .string ⟨#[]⟩, .int .i64 0, .int .i64 0, .int .i64 0, .int .i64 0, .slice none 0 0, .slice none 0 0]) := f3.out.call r3 g3
  have c3 := (d3.out.cell 13).1
  have z3 := (d3.out.cell 13).2
  simp only [List.getElem?_toArray] at c3
  have f9 : Hid (FQ w (v3.setCell ⟨N, 13, none⟩ (.slice ba xl.length bc)) R A B N l xp xy #[.int .i64 5, .int .i64 n1, .int .i64 g1, .int .i64 0, .string ⟨#[]⟩, .string ⟨#[]⟩, .int .i64 0, .string ⟨#[]⟩, .int .i64 0, .int .i64 0, .int .i64 0, .int .i64 0, .slice none 0 0, .slice ba xl.length bc]) := d3.out.store 13 _
  have lbn := f3.out.lt
  have O9 : Hid ((v3.setCell ⟨N, 13, none⟩ (.slice ba xl.length bc)).ownsRow (N + 1) 5 1 (.slice ba xl.length bc) xl.length (cellsOf xl)) := owns_set (owns_mono' ob (by omega)) _ _ (by simp)
  clear r3 g3 C3 f3 d3 ob lb lbn
  obtain ⟨wX, eX⟩ : ∃ wX, v3.setCell ⟨N, 13, none⟩ (.slice ba xl.length bc) = wX := ⟨_, rfl⟩
  have f9' : FQ w wX R A B N l xp xy #[.int .i64 5, .int .i64 n1, .int .i64 g1, .int .i64 0, .string ⟨#[]⟩, .string ⟨#[]⟩, .int .i64 0, .string ⟨#[]⟩, .int .i64 0, .int .i64 0, .int .i64 0, .int .i64 0, .slice none 0 0, .slice ba xl.length bc] := by rw [← eX]; exact f9.out
  have O9' : wX.ownsRow (N + 1) 5 1 (.slice ba xl.length bc) xl.length (cellsOf xl) := by rw [← eX]; exact O9.out
  have EX : Hid (v3.setCell ⟨N, 13, none⟩ (.slice ba xl.length bc) = wX) := eX
  have CE := refREnd_any R A B l xp xy wX f9'.rdr
  clear eX f9 O9
  go_wp2_with fail
  rw [EX.out]
  refine CE.mono ?_
  rintro e w8 ⟨rfl, q, rfl⟩
  have f8 : FQ w (wX.drewN q) R A B N l xp xy #[.int .i64 5, .int .i64 n1, .int .i64 g1, .int .i64 0, .string ⟨#[]⟩, .string ⟨#[]⟩, .int .i64 0, .string ⟨#[]⟩, .int .i64 0, .int .i64 0, .int .i64 0, .int .i64 0, .slice none 0 0, .slice ba xl.length bc] := ⟨f9'.rdr.drawn q, f9'.old, f9'.new, below_drewN' f9'.bel q, f9'.tr, f9'.rn, f9'.bn⟩
  have NT : Hid (w.heap.size < N) := Nat.lt_trans f8.tr f8.rn
  have G1 : Hid _ := f8.old
  have G2 : Hid _ := f8.new
  have BZ : Hid (Zef w ((wX.drewN q).setRow w.heap.size #[.int .i64 0, .int .i64 0, .int .i64 0, .int .i64 0, .string ⟨#[]⟩, .string ⟨#[]⟩, .int .i64 0, .string ⟨#[]⟩, .int .i64 0, .int .i64 0, .int .i64 0, .int .i64 0, .slice none 0 0, .slice none 0 0])) := (Zef.mk f8.bel f8.old).row
  obtain ⟨q1, q2, q3⟩ := f8.done
  have Q1 : Hid _ := q1
  have Q2 : Hid _ := q2
  have Q3 : Hid (∀ k, k ≠ w.heap.size → ((wX.drewN q).setRow w.heap.size #[.int .i64 5, .int .i64 n1, .int .i64 g1, .int .i64 0, .string ⟨#[]⟩, .string ⟨#[]⟩, .int .i64 0, .string ⟨#[]⟩, .int .i64 0, .int .i64 0, .int .i64 0, .int .i64 0, .slice none 0 0, .slice ba xl.length bc]).heap[k]? = (wX.drewN q).heap[k]?) := q3
  have O8 : Hid ((wX.drewN q).ownsRow (N + 1) 5 1 (.slice ba xl.length bc) xl.length (cellsOf xl)) := O9'
  clear CE EX f9' f8 q1 q2 q3 O9'
  by_cases he : rEnd l xp xy = 0
  case neg =>
    have HP : Hid (unpackD l = (LetD.zero, rEnd l xp xy)) := HPE.out _ rfl he
    clear HPE HPO
    generalize rEnd l xp xy = y9 at *
    have he' : (((y9 : Nat) : Int) != 0) = true := by simp; omega
    clear he
    go_wp2_with (refine wpList_store_row rfl 30 (.tmp 2) (.tmp 74) rfl w.heap.size #[.int .i64 0, .int .i64 0, .int .i64 0, .int .i64 0, .string ⟨#[]⟩, .string ⟨#[]⟩, .int .i64 0, .string ⟨#[]⟩, .int .i64 0, .int .i64 0, .int .i64 0, .int .i64 0, .slice none 0 0, .slice none 0 0] rfl rfl 30 _ G1.out (by kernel_rfl) rfl (by simp [Value.oneCell']) ?_)
    exact bodyPost_ret (results_ctK rfl _ _ w.heap.size 30 _ (0, 0) _ rfl BZ.out.z Try.underlying30 rfl (by kernel_rfl)) rfl (unp_zero HP.out BZ.out.bel rfl)
  have HP : Hid _ := HPO.out he
  rw [he]
  clear HPE HPO he
  go_wp2_with (first
    | (refine wpList_load_row rfl 30 (.tmp 6) rfl N rfl 30 #[.int .i64 5, .int .i64 n1, .int .i64 g1, .int .i64 0, .string ⟨#[]⟩, .string ⟨#[]⟩, .int .i64 0, .string ⟨#[]⟩, .int .i64 0, .int .i64 0, .int .i64 0, .int .i64 0, .slice none 0 0, .slice ba xl.length bc] (0, 0) _ G2.out Try.underlying30 rfl (by kernel_rfl) ?_)
    | (refine wpList_store_row rfl 30 (.tmp 2) (.tmp 76) rfl w.heap.size #[.int .i64 5, .int .i64 n1, .int .i64 g1, .int .i64 0, .string ⟨#[]⟩, .string ⟨#[]⟩, .int .i64 0, .string ⟨#[]⟩, .int .i64 0, .int .i64 0, .int .i64 0, .int .i64 0, .slice none 0 0, .slice ba xl.length bc] rfl rfl 30 _ G1.out (by kernel_rfl) rfl (by simp [Value.oneCell']) ?_))
  exact bodyPost_ret (results_ctK rfl _ _ w.heap.size 30 _ (0, 0) _ rfl Q2.out Try.underlying30 rfl (by kernel_rfl)) rfl ⟨none, 0, ba, bc, by rw [HP.out]; rfl, by rw [HP.out]; exact ⟨owns_rows_none _ _, owns_mono' (ownsK O8.out fun g hg => Q3.out g (by have := (O8.out.lt _ hg).1; have := NT.out; omega)) (by have := NT.out; omega)⟩, Q1.out⟩
set_option maxRecDepth 100000 in
set_option maxHeartbeats 4000000 in
theorem refUnpack_any (a : Option Addr) (cap : Nat) (l : List (BitVec 8)) (w : World) (h : Seen w a l.length l) (hnil : a = none → cap = 0) :
    Calls Try.prog 16 #[.slice a l.length cap] w fun e w' => UnpTold w w' l e := by
  by_cases h0 : 1048576 < l.length
  · have HP : Hid _ := unpack_size h0
    have h0' : (1048576 : Int) < (l.length : Int) := by omega
    have Z1 : Hid (Zef w (w.alloc (.cells #[.int .i64 0, .int .i64 0, .int .i64 0, .int .i64 0, .string ⟨#[]⟩, .string ⟨#[]⟩, .int .i64 0, .string ⟨#[]⟩, .int .i64 0, .int .i64 0, .int .i64 0, .int .i64 0, .slice none 0 0, .slice none 0 0] 30))) := ⟨(Below.refl _ w).alloc (Nat.le_refl _) _, heap_alloc_new w _⟩
    clear h hnil h0
    go_enter Try.func16, Try.ntmps16
    go_wp2
    exact bodyPost_ret (results_ctK rfl _ _ w.heap.size 30 _ (0, 0) _ rfl Z1.out.z Try.underlying30 rfl (by kernel_rfl)) rfl (unp_zero HP.out Z1.out.bel rfl)
  by_cases h1 : (rU l 0 0).2.2 = 0
  case neg => exact refUnpack_num a cap l w h hnil h0 h1
  by_cases h2 : zag (rU l 0 0).1 < 1 ∨ 5 < zag (rU l 0 0).1
  · exact refUnpack_arg a cap l w h hnil h0 h1 h2
  rcases kinds (k := zag (rU l 0 0).1) (by omega) (by omega) with e | e | e | e | e
  · exact refUnpack_1 a cap l w h hnil h0 h1 e
  · exact refUnpack_2 a cap l w h hnil h0 h1 e
  · exact refUnpack_3 a cap l w h hnil h0 h1 e
  · exact refUnpack_4 a cap l w h hnil h0 h1 e
  · exact refUnpack_5 a cap l w h hnil h0 h1 e
end Go.Proofs.Ytmcippolnekogaa
