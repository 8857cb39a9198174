/- Package book's law: alike. -/
import Derived.Test.YtdchnfggmkokhaaGreatDoorBValues
import Derived.Test.YtdchnfggmkokhaaGreatDoorBQBytes
import Derived.Test.YtdchnfggmkokhaaGreatDoorGI
import Derived.Test.YtdchnfggmkokhaaGreatDoorBSame
import Derived.Test.YtdchnfggmkokhaaGreatDoorGE
import Derived.Test.YtdchnfggmkokhaaGreatDoorSteps
namespace Go.Proofs.YtdchnfggmkokhaaGreatDoor
open Go.RowKit Go.Shelf Cod
attribute [local go_sem] Oper.semAt_some
set_option linter.unusedVariables false

/-- Both books in memory: they say the same. -/
structure Pair (w : World) (base base' N N' : Nat) (sv sv' : Value) (L : List Acc) : Prop where
  b : BookIn w base N sv L
  q : RefB w base' N' sv' L
  t : Tabs w
theorem Pair.below {w w' : World} {base base' N N' : Nat} {sv sv' : Value} {L : List Acc} (h : Pair w base base' N N' sv sv' L) (k : Below w.heap.size w w') : Pair w' base base' N N' sv sv' L := ⟨h.b.below k, h.q.below k, h.t.below k h.t.size⟩
section
variable {P : Program} {ops : Array Oper} {Q : Exit → Act → World → Prop} {md : Region.Mode} {S : World → Prop}
theorem take_effB {i : Nat} {oi : Oper} {fuel : Nat} {listed : Array Bool} {a : Act} {w w' : World} (hi : ops[i]? = some oi) (hr : Region.ready md ops listed = [i]) (hw : Region.wanted oi (yielded ops a.tmps) = true)
    (hx : (execOp a.eval oi).run P w = .ok .skip w') (hS : S w') (h : wpAnyH P md ops Q S fuel (listed.setIfInBounds i true) (a.put oi.dst undef) w') : wpAnyH P md ops Q S (fuel + 1) listed a w := by
  refine wpAnyH_all (rs := [i]) hr (by simp) (fun j hj => ?_)
  obtain rfl : j = i := by simpa using hj
  unfold wpOp
  simp only [hi, hw, if_true, Oper.wp, hx]
  rw [Oper.upon_skip]
  exact .inl ⟨hS, h⟩
end
theorem resultsB_bool {fn : Func} {p : Tmp} (h : fn.results = #[.cell p 4]) (tmps : Array Value) (w : World) (g : Nat) (b : Bool) (hp : tmps.getD p undef = .pointer (some ⟨g, 0, none⟩)) (hc : w.cell? ⟨g, 0, none⟩ = some (.bool b)) :
    (results fn tmps).run Tryz.prog w = .ok (.bool b) w := by
  have hp' : tmps[p]?.getD undef = .pointer (some ⟨g, 0, none⟩) := by simpa using hp
  simp only [results, h]
  simp [hp', asAddr]
  go_simp
theorem actIn_gen {P : Program} {n : Nat} {F : Fence} {Q : Exit → Act → World → Prop} {c : Code} {w : World} {a : Act} (h : ∀ A : Act, A = a → c.wpIn F n P Q A w) : c.wpIn F n P Q a w := h a rfl
theorem owns_boxB {w w' : World} {base k size Bi : Nat} {t : TypeId} {u : Value} {ys : List Value} {cs : Array Value} {z : Nat × Nat} (h : w.ownsRow base t size u k ys) (hb : w.heap[Bi]? = some (.cells cs 3 z)) (ht : t ≠ 3) (hg : w.grownBy w' (some Bi)) : w'.ownsRow base t size u k ys := by
  refine ⟨h.1, h.2.imp id ?_⟩
  rintro ⟨g, cap, cur, e1, e2, e3, e4⟩
  refine ⟨g, cap, cur, e1, e2, ?_, e4⟩
  rw [hg.block g (Array.getElem?_eq_some_iff.1 e3).1 (fun e => ?_)]
  · exact e3
  · have : g = Bi := by simpa using e
    subst this
    rw [hb] at e3
    injection e3 with e3
    injection e3 with _ e7
    exact ht e7.symm
/-- What is there while rows are ranged over: all that was, but the number's box. -/
structure RgS (w W X : World) (Bi j : Nat) : Prop where
  bel : Below w.heap.size w W
  lB : w.heap.size ≤ Bi
  was : ∃ z, W.heap[Bi]? = some (.cells #[.int .i64 z] 3 (0, 0))
  grown : W.grownBy X (some Bi)
  box : X.heap[Bi]? = some (.cells #[.int .i64 (j : Nat)] 3 (0, 0))
section
variable {w W X Y : World} {Bi j : Nat}
theorem RgS.sz (h : RgS w W X Bi j) : Bi < W.heap.size := by
  obtain ⟨z, hz⟩ := h.was
  exact (Array.getElem?_eq_some_iff.1 hz).1
theorem RgS.all (h : RgS w W X Bi j) : Below w.heap.size w X := h.bel.grown h.grown h.bel.size (fun k e => by have := Option.some.inj e; have := h.lB; omega)
theorem RgS.low (h : RgS w W X Bi j) (b : Below W.heap.size X Y) : RgS w W Y Bi j :=
  ⟨h.bel, h.lB, h.was, ⟨b.os.trans h.grown.os, b.tape.trans h.grown.tape, b.output.trans h.grown.output, Nat.le_trans h.grown.size b.size, fun k hk hr => (b.block k hk).trans (h.grown.block k hk hr)⟩, (b.block _ h.sz).trans h.box⟩
theorem RgS.row {base k size : Nat} {t : TypeId} {u : Value} {ys : List Value} (h : RgS w W X Bi j) (hr : W.ownsRow base t size u k ys) (ht : t ≠ 3) : X.ownsRow base t size u k ys := by
  obtain ⟨z, hz⟩ := h.was
  exact owns_boxB hr hz ht h.grown
theorem RgS.kept {k : Nat} {o : Obj} (h : RgS w W X Bi j) (hk : W.heap[k]? = some o) (hn : k ≠ Bi) : X.heap[k]? = some o := by
  rw [h.grown.block k (Array.getElem?_eq_some_iff.1 hk).1 (fun e => hn (by simpa using e))]
  exact hk
/-- The number goes on. -/
theorem RgS.next (h : RgS w W X Bi j) (i : Nat) : RgS w W (X.setCell ⟨Bi, 0, none⟩ (.int .i64 (i : Nat))) Bi i :=
  ⟨h.bel, h.lB, h.was, ⟨h.grown.os, h.grown.tape, h.grown.output, by simpa [World.setCell] using h.grown.size, fun k hk hr => by
    rw [Below.heap_setCell _ _ _ k (fun e => hr (by simpa using e))]
    exact h.grown.block k hk hr⟩, by
    have := heap_setCell_same X Bi 0 _ 3 (.int .i64 (i : Nat)) h.box
    simpa using this⟩
theorem RgS.drewN (h : RgS w W X Bi j) (n : Nat) : RgS w W (X.drewN n) Bi j := ⟨h.bel, h.lB, h.was, ⟨h.grown.os, h.grown.tape, h.grown.output, h.grown.size, h.grown.block⟩, h.box⟩
end
theorem getV_form (L : List Acc) (t : ByteArray) : ∃ n e : Int, getV L t = .tuple #[.int .i64 n, .int .i64 e] := by
  unfold getV
  cases getA L t with
  | none => exact ⟨0, 40, rfl⟩
  | some p => exact ⟨p.amt, 0, rfl⟩
theorem bytes_low {L : List Acc} (h : Fit L) : (bookB L).length ≤ maxLen := by
  have := h.bytes L.length
  rw [List.take_length] at this
  have h10 := enc_ten (n := L.length) (by have := h.len; omega)
  unfold maxLen bookB
  rw [List.length_append]
  omega
theorem rows_low {L : List Acc} (h : Fit L) (s : Int) : (rowsOf s L).length ≤ 1000 := Nat.le_trans (rowsOf_len s L) (Nat.le_trans h.len (by omega))
/-- Only what goes on (as package codec's onward). -/
def onwardB (Q : Exit → Act → World → Prop) : Exit → Act → World → Prop
  | .normal, a, w => Q .normal a w
  | _, _, _ => False
theorem onwardB_wp {P : Program} {c : Code} {Q : Exit → Act → World → Prop} {a : Act} {w : World} (h : c.wp P (onwardB Q) a w) : c.wp P Q a w :=
  Code.wp_mono (fun e a w h => by cases e <;> first | exact h | exact h.elim) h
theorem seqB_some_in (w : World) (d : Nat) (f : Fn) (a b : Array Value) : (Op.equalIn (d + 1) 72 (.func f a b) .nilFunc).run Tryz.prog w = .ok false w := by
  simp [Op.equalIn, run_underlying Tryz.underlying72]
theorem seqB_some (w : World) (f : Fn) (a b : Array Value) : (binOp .eql 72 (.func f a b) .nilFunc).run Tryz.prog w = .ok (.bool false) w := by
  simp only [binOp]
  simp [Op.equal, Op.maxDepth, seqB_some_in w 9999 f a b]
set_option maxRecDepth 100000 in
set_option maxHeartbeats 8000000 in
theorem alike_any {w : World} {base base' N N' : Nat} {sv sv' : Value} {L : List Acc} (h : Pair w base base' N N' sv sv' L) (ok on slot : Int) (nm oby : ByteArray) :
    Calls Tryz.prog 11 #[.pointer (some ⟨N, 0, none⟩), .pointer (some ⟨N', 0, none⟩), .agg #[.int .i64 ok, .string nm, .string oby, .int .i64 on, .int .i64 slot]] w fun e w' => e = .returned (.bool true) ∧ Below w.heap.size w w' := by
  refine (callsIn_wide (n := 5)).1 ?_
  refine callsIn_of_wp_marks Tryz.func11 rfl trivial ?_ rfl
  refine wpIn_wide.2 ?_
  simp only [Tryz.ntmps11, List.size_toArray, List.length_cons, List.length_nil, Nat.reduceAdd, Nat.reduceSub, Array.replicate_succ, Array.replicate_zero, List.push_toArray, List.append_toArray, List.nil_append, List.cons_append]
  obtain ⟨w1, hw1⟩ : ∃ w1, (w.alloc (.cells #[.int .i64 ok, .string nm, .string oby, .int .i64 on, .int .i64 slot] 30)).alloc (.cells #[.bool false] 4) = w1 := ⟨_, rfl⟩
  have O1 : Hid (w1.heap[w.heap.size]? = some (.cells #[.int .i64 ok, .string nm, .string oby, .int .i64 on, .int .i64 slot] 30 (0, 0))) := by
    show _ = _
    rw [← hw1, Below.heap_alloc _ _ _ (by simp)]
    exact heap_alloc_new w _
  have R1 : Hid (w1.heap[w.heap.size + 1]? = some (.cells #[.bool false] 4 (0, 0))) := by
    have := heap_alloc_new (w.alloc (.cells #[.int .i64 ok, .string nm, .string oby, .int .i64 on, .int .i64 slot] 30)) (.cells #[.bool false] 4)
    rw [World.size_alloc, hw1] at this
    exact this
  have B1 : Hid (Below w.heap.size w w1) := by rw [← hw1]; exact ((Below.refl _ w).alloc (Nat.le_refl _) _).alloc (by simp) _
  have P1 : Hid (Pair w1 base base' N N' sv sv' L) := h.below B1.out
  have HF : Hid (Fit L) := h.b.fit
  clear h
  have c1 : w1.cell? ⟨w.heap.size, 1, none⟩ = some (.string nm) := by simp [World.cell?, O1.out]
  have f1 : w1.frozen? ⟨w.heap.size, 1, none⟩ = false := by simp [World.frozen?, O1.out]
  obtain ⟨gn, ge, hg⟩ := getV_form L nm
  have G1 := get_any P1.out.b nm
  rw [hg] at G1
  go_wp2_with fail
  refine G1.mono ?_
  clear G1
  rintro e w2 ⟨rfl, b2⟩
  have B2 : Hid (Below w1.heap.size w1 w2) := b2
  have P2 : Hid (Pair w2 base base' N N' sv sv' L) := P1.out.below b2
  have O2 : Hid (w2.heap[w.heap.size]? = some (.cells #[.int .i64 ok, .string nm, .string oby, .int .i64 on, .int .i64 slot] 30 (0, 0))) := (b2.block _ (Array.getElem?_eq_some_iff.1 O1.out).1).trans O1.out
  clear b2 c1 f1 hw1
  have c2 : w2.cell? ⟨w.heap.size, 1, none⟩ = some (.string nm) := by simp [World.cell?, O2.out]
  have f2 : w2.frozen? ⟨w.heap.size, 1, none⟩ = false := by simp [World.frozen?, O2.out]
  have G2 := qget_any P2.out.q nm
  rw [hg] at G2
  go_wp2_with fail
  refine G2.mono ?_
  clear G2 hg
  rintro e w3 ⟨rfl, b3⟩
  have B3 : Hid (Below w1.heap.size w1 w3) := B2.out.trans (b3.mono B2.out.size)
  have P3 : Hid (Pair w3 base base' N N' sv sv' L) := P2.out.below b3
  have O3 : Hid (w3.heap[w.heap.size]? = some (.cells #[.int .i64 ok, .string nm, .string oby, .int .i64 on, .int .i64 slot] 30 (0, 0))) := (b3.block _ (Array.getElem?_eq_some_iff.1 O2.out).1).trans O2.out
  clear b3 c2 f2 P1 P2 O1 O2 B2
  have c3 : w3.cell? ⟨w.heap.size, 4, none⟩ = some (.int .i64 slot) := by simp [World.cell?, O3.out]
  have f3 : w3.frozen? ⟨w.heap.size, 4, none⟩ = false := by simp [World.frozen?, O3.out]
  obtain ⟨R, hR⟩ : ∃ R, rowsOf slot L = R := ⟨_, rfl⟩
  have G3 := rows_any P3.out.b P3.out.t slot
  rw [hR] at G3
  have HRl : Hid (R.length ≤ 1000) := by show _ ≤ _; rw [← hR]; exact rows_low HF.out slot
  go_wp2_with fail
  refine G3.mono ?_
  clear G3
  rintro e w4 ⟨ra, rc, rfl, ro, b4⟩
  have B4 : Hid (Below w1.heap.size w1 w4) := B3.out.trans (b4.mono B3.out.size)
  have P4 : Hid (Pair w4 base base' N N' sv sv' L) := P3.out.below b4
  have O4 : Hid (w4.heap[w.heap.size]? = some (.cells #[.int .i64 ok, .string nm, .string oby, .int .i64 on, .int .i64 slot] 30 (0, 0))) := (b4.block _ (Array.getElem?_eq_some_iff.1 O3.out).1).trans O3.out
  have R4 : Hid (w4.ownsRow w3.heap.size 50 2 (.slice ra R.length rc) R.length (cells2 R)) := ro
  have W34 : Hid (w1.heap.size ≤ w3.heap.size) := B3.out.size
  have HRe : Hid (rowsOf slot L = R) := hR
  have B34 : Hid (Below w3.heap.size w3 w4) := b4
  have O3' : Hid (w.heap.size + 1 < w3.heap.size ∧ w.heap.size ≤ w3.heap.size) := ⟨by have := (Array.getElem?_eq_some_iff.1 R1.out).1; have := B3.out.size; omega, by have := B1.out.size; have := B3.out.size; omega⟩
  have R3 : Hid (w3.heap[w.heap.size + 1]? = some (.cells #[.bool false] 4 (0, 0))) := (B3.out.block _ (Array.getElem?_eq_some_iff.1 R1.out).1).trans R1.out
  have B03 : Hid (Below w.heap.size w w3) := B1.out.trans (B3.out.mono B1.out.size)
  clear b4 c3 f3 O3 B3 ro hR
  obtain ⟨qa, qc, hq, _⟩ := P4.out.q.sv_form
  subst hq
  have C1 : Hid (∀ wq, Below w4.heap.size w4 wq → wq.cell? ⟨w.heap.size, 1, none⟩ = some (.string nm) ∧ wq.cell? ⟨w.heap.size, 4, none⟩ = some (.int .i64 slot) ∧ wq.cell? ⟨N', 0, none⟩ = some (.slice qa L.length qc)) := fun wq hb => by
    have h1 := (hb.block _ (Array.getElem?_eq_some_iff.1 O4.out).1).trans O4.out
    exact ⟨by simp [World.cell?, h1], by simp [World.cell?, h1], (P4.out.below hb).q.c0⟩
  have hxs := text_self (textOf (bookB L))
  have hxy : ((accOr (getA L nm)).by_.toList == (accOr (getA L nm)).by_.toList) = true := by simp
  generalize (accOr (getA L nm)).by_ = gby at *
  go_wp2_with fail
  refine onwardB_wp ?_
  refine wp_region_held_drew (S := fun w' => Below w4.heap.size w4 w') (by kernel_rfl) (Below.drew (Below.refl _ w4)) (fun hHeld => ?_)
  refine take_run (i := 0) (oi := { dst := some 35, op := Go.Op.move (Go.Operand.tmp 7), type := 2, pos := "law.go:69", after := #[], guard := none }) (v := ?_) rfl (by kernel_rfl) (by kernel_rfl) (by kernel_rfl) (fun _ _ _ h => h) (by rfl) ?_ hHeld ?_
  rotate_left
  · (intro wq hSw; go_simp <;> with_reducible rfl)
  try simp only [Act.put, List.setIfInBounds_toArray, List.set_cons_zero, List.set_cons_succ]
  refine take_run (i := 1) (oi := { dst := some 36, op := Go.Op.move (Go.Operand.tmp 9), type := 2, pos := "law.go:69", after := #[], guard := none }) (v := ?_) rfl (by kernel_rfl) (by kernel_rfl) (by kernel_rfl) (fun _ _ _ h => h) (by rfl) ?_ hHeld ?_
  rotate_left
  · (intro wq hSw; go_simp <;> with_reducible rfl)
  try simp only [Act.put, List.setIfInBounds_toArray, List.set_cons_zero, List.set_cons_succ]
  refine take_run (i := 2) (oi := { dst := some 37, op := Go.Op.binOp Go.BinOp.neq 2 (Go.Operand.tmp 35) (Go.Operand.tmp 36) 2, type := 4, pos := "law.go:69", after := #[{ on := 0, ground := Go.Ground.data }, { on := 1, ground := Go.Ground.data }], guard := none }) (v := ?_) rfl (by kernel_rfl) (by kernel_rfl) (by kernel_rfl) (fun _ _ _ h => h) (by rfl) ?_ hHeld ?_
  rotate_left
  · (intro wq hSw; go_simp <;> with_reducible rfl)
  try simp only [Act.put, List.setIfInBounds_toArray, List.set_cons_zero, List.set_cons_succ]
  refine take_run (i := 3) (oi := { dst := some 38, op := Go.Op.move (Go.Operand.tmp 37), type := 4, pos := "law.go:69", after := #[{ on := 2, ground := Go.Ground.data }], guard := none }) (v := ?_) rfl (by kernel_rfl) (by kernel_rfl) (by kernel_rfl) (fun _ _ _ h => h) (by rfl) ?_ hHeld ?_
  rotate_left
  · (intro wq hSw; go_simp <;> with_reducible rfl)
  try simp only [Act.put, List.setIfInBounds_toArray, List.set_cons_zero, List.set_cons_succ]
  refine take_run (i := 4) (oi := { dst := some 39, op := Go.Op.move (Go.Operand.tmp 8), type := 34, pos := "law.go:69", after := #[{ on := 3, ground := Go.Ground.guard }], guard := some (3, false) }) (v := ?_) rfl (by kernel_rfl) (by kernel_rfl) (by kernel_rfl) (fun _ _ _ h => h) (by rfl) ?_ hHeld ?_
  rotate_left
  · (intro wq hSw; go_simp <;> with_reducible rfl)
  try simp only [Act.put, List.setIfInBounds_toArray, List.set_cons_zero, List.set_cons_succ]
  refine take_run (i := 5) (oi := { dst := some 40, op := Go.Op.move (Go.Operand.tmp 10), type := 34, pos := "law.go:69", after := #[{ on := 3, ground := Go.Ground.guard }], guard := some (3, false) }) (v := ?_) rfl (by kernel_rfl) (by kernel_rfl) (by kernel_rfl) (fun _ _ _ h => h) (by rfl) ?_ hHeld ?_
  rotate_left
  · (intro wq hSw; go_simp <;> with_reducible rfl)
  try simp only [Act.put, List.setIfInBounds_toArray, List.set_cons_zero, List.set_cons_succ]
  refine take_run (i := 6) (oi := { dst := some 41, op := Go.Op.binOp Go.BinOp.neq 34 (Go.Operand.tmp 39) (Go.Operand.tmp 40) 34, type := 4, pos := "law.go:69", after := #[{ on := 4, ground := Go.Ground.data }, { on := 5, ground := Go.Ground.data }, { on := 3, ground := Go.Ground.guard }], guard := some (3, false) }) (v := ?_) rfl (by kernel_rfl) (by kernel_rfl) (by kernel_rfl) (fun _ _ _ h => h) (by rfl) ?_ hHeld ?_
  rotate_left
  · (intro wq hSw; go_simp <;> with_reducible rfl)
  try simp only [Act.put, List.setIfInBounds_toArray, List.set_cons_zero, List.set_cons_succ]
  refine take_run (i := 7) (oi := { dst := some 42, op := Go.Op.pick (Go.Operand.tmp 38) (Go.Operand.const (Go.Value.bool true)) (Go.Operand.tmp 41), type := 4, pos := "law.go:69", after := #[{ on := 3, ground := Go.Ground.data }, { on := 6, ground := Go.Ground.data }], guard := none }) (v := ?_) rfl (by kernel_rfl) (by kernel_rfl) (by kernel_rfl) (fun _ _ _ h => h) (by rfl) ?_ hHeld ?_
  rotate_left
  · (intro wq hSw; go_simp <;> with_reducible rfl)
  try simp only [Act.put, List.setIfInBounds_toArray, List.set_cons_zero, List.set_cons_succ]
  refine take_run (i := 8) (oi := { dst := some 43, op := Go.Op.move (Go.Operand.tmp 42), type := 4, pos := "law.go:69", after := #[{ on := 7, ground := Go.Ground.data }, { on := 3, ground := Go.Ground.chain }], guard := none }) (v := ?_) rfl (by kernel_rfl) (by kernel_rfl) (by kernel_rfl) (fun _ _ _ h => h) (by rfl) ?_ hHeld ?_
  rotate_left
  · (intro wq hSw; go_simp <;> with_reducible rfl)
  try simp only [Act.put, List.setIfInBounds_toArray, List.set_cons_zero, List.set_cons_succ]
  refine take_run (i := 9) (oi := { dst := some 44, op := Go.Op.move (Go.Operand.tmp 0), type := 23, pos := "law.go:69", after := #[{ on := 8, ground := Go.Ground.guard }], guard := some (8, false) }) (v := ?_) rfl (by kernel_rfl) (by kernel_rfl) (by kernel_rfl) (fun _ _ _ h => h) (by rfl) ?_ hHeld ?_
  rotate_left
  · (intro wq hSw; go_simp <;> with_reducible rfl)
  try simp only [Act.put, List.setIfInBounds_toArray, List.set_cons_zero, List.set_cons_succ]
  refine take_run (i := 10) (oi := { dst := some 45, op := Go.Op.fieldAddr 30 (Go.Operand.tmp 5) 1, type := 0, pos := "law.go:69", after := #[{ on := 8, ground := Go.Ground.guard }], guard := some (8, false) }) (v := ?_) rfl (by kernel_rfl) (by kernel_rfl) (by kernel_rfl) (fun _ _ _ h => h) (by rfl) ?_ hHeld ?_
  rotate_left
  · (intro wq hSw; go_simp <;> with_reducible rfl)
  try simp only [Act.put, List.setIfInBounds_toArray, List.set_cons_zero, List.set_cons_succ]
  refine take_run (i := 11) (oi := { dst := some 46, op := Go.Op.load 9 (Go.Operand.tmp 45), type := 9, pos := "law.go:69", after := #[{ on := 10, ground := Go.Ground.data }, { on := 8, ground := Go.Ground.guard }], guard := some (8, false) }) (v := ?_) rfl (by kernel_rfl) (by kernel_rfl) (by kernel_rfl) (fun _ _ _ h => h) (by rfl) ?_ hHeld ?_
  rotate_left
  · (intro wq hSw; obtain ⟨q1, q2, q3⟩ := C1.out wq hSw; go_simp <;> with_reducible rfl)
  try simp only [Act.put, List.setIfInBounds_toArray, List.set_cons_zero, List.set_cons_succ]
  refine take_run (i := 13) (oi := { dst := some 48, op := Go.Op.move (Go.Operand.tmp 1), type := 25, pos := "law.go:69", after := #[{ on := 8, ground := Go.Ground.guard }], guard := some (8, false) }) (v := ?_) rfl (by kernel_rfl) (by kernel_rfl) (by kernel_rfl) (fun _ _ _ h => h) (by rfl) ?_ hHeld ?_
  rotate_left
  · (intro wq hSw; go_simp <;> with_reducible rfl)
  try simp only [Act.put, List.setIfInBounds_toArray, List.set_cons_zero, List.set_cons_succ]
  refine take_run (i := 14) (oi := { dst := some 49, op := Go.Op.fieldAddr 30 (Go.Operand.tmp 5) 1, type := 0, pos := "law.go:69", after := #[{ on := 8, ground := Go.Ground.guard }], guard := some (8, false) }) (v := ?_) rfl (by kernel_rfl) (by kernel_rfl) (by kernel_rfl) (fun _ _ _ h => h) (by rfl) ?_ hHeld ?_
  rotate_left
  · (intro wq hSw; go_simp <;> with_reducible rfl)
  try simp only [Act.put, List.setIfInBounds_toArray, List.set_cons_zero, List.set_cons_succ]
  refine take_run (i := 15) (oi := { dst := some 50, op := Go.Op.load 9 (Go.Operand.tmp 49), type := 9, pos := "law.go:69", after := #[{ on := 14, ground := Go.Ground.data }, { on := 8, ground := Go.Ground.guard }], guard := some (8, false) }) (v := ?_) rfl (by kernel_rfl) (by kernel_rfl) (by kernel_rfl) (fun _ _ _ h => h) (by rfl) ?_ hHeld ?_
  rotate_left
  · (intro wq hSw; obtain ⟨q1, q2, q3⟩ := C1.out wq hSw; go_simp <;> with_reducible rfl)
  try simp only [Act.put, List.setIfInBounds_toArray, List.set_cons_zero, List.set_cons_succ]
  refine take_call (i := 12) (oi := { dst := some 47, op := Go.Op.call { callee := Go.Callee.value (Go.Operand.func 41), args := #[Go.Operand.tmp 44, Go.Operand.tmp 46], argTypes := #[23, 9] }, type := 9, pos := "law.go:69", after := #[{ on := 9, ground := Go.Ground.data }, { on := 11, ground := Go.Ground.data }, { on := 8, ground := Go.Ground.chain }, { on := 8, ground := Go.Ground.guard }], guard := some (8, false) }) rfl (by kernel_rfl) (by rfl) 41 _ (by go_simp <;> with_reducible rfl) ?_
  refine (by_any (P4.out.below hHeld).b nm).mono ?_
  rintro e y1 ⟨rfl, k1⟩
  have h1 : Below w4.heap.size w4 y1 := hHeld.trans (k1.mono hHeld.size)
  clear k1
  refine ⟨_, rfl, h1, ?_⟩
  try simp only [Act.put, List.setIfInBounds_toArray, List.set_cons_zero, List.set_cons_succ]
  refine take_call (i := 16) (oi := { dst := some 51, op := Go.Op.call { callee := Go.Callee.value (Go.Operand.func 42), args := #[Go.Operand.tmp 48, Go.Operand.tmp 50], argTypes := #[25, 9] }, type := 9, pos := "law.go:69", after := #[{ on := 13, ground := Go.Ground.data }, { on := 15, ground := Go.Ground.data }, { on := 12, ground := Go.Ground.chain }, { on := 8, ground := Go.Ground.guard }], guard := some (8, false) }) rfl (by kernel_rfl) (by rfl) 42 _ (by go_simp <;> with_reducible rfl) ?_
  refine (qby_any (P4.out.below h1).q nm).mono ?_
  rintro e y2 ⟨rfl, k2⟩
  have h2 : Below w4.heap.size w4 y2 := h1.trans (k2.mono h1.size)
  clear k2 h1
  refine ⟨_, rfl, h2, ?_⟩
  try simp only [Act.put, List.setIfInBounds_toArray, List.set_cons_zero, List.set_cons_succ]
  refine take_run (i := 17) (oi := { dst := some 52, op := Go.Op.binOp Go.BinOp.neq 9 (Go.Operand.tmp 47) (Go.Operand.tmp 51) 9, type := 4, pos := "law.go:69", after := #[{ on := 12, ground := Go.Ground.data }, { on := 16, ground := Go.Ground.data }, { on := 8, ground := Go.Ground.guard }], guard := some (8, false) }) (v := ?_) rfl (by kernel_rfl) (by kernel_rfl) (by kernel_rfl) (fun _ _ _ h => h) (by rfl) ?_ h2 ?_
  rotate_left
  · (intro wq hSw; go_simp <;> with_reducible rfl)
  try simp only [Act.put, List.setIfInBounds_toArray, List.set_cons_zero, List.set_cons_succ]
  refine take_run (i := 18) (oi := { dst := some 53, op := Go.Op.pick (Go.Operand.tmp 43) (Go.Operand.const (Go.Value.bool true)) (Go.Operand.tmp 52), type := 4, pos := "law.go:69", after := #[{ on := 8, ground := Go.Ground.data }, { on := 17, ground := Go.Ground.data }], guard := none }) (v := ?_) rfl (by kernel_rfl) (by kernel_rfl) (by kernel_rfl) (fun _ _ _ h => h) (by rfl) ?_ h2 ?_
  rotate_left
  · (intro wq hSw; go_simp <;> with_reducible rfl)
  try simp only [Act.put, List.setIfInBounds_toArray, List.set_cons_zero, List.set_cons_succ]
  refine take_run (i := 19) (oi := { dst := some 54, op := Go.Op.move (Go.Operand.tmp 53), type := 4, pos := "law.go:69", after := #[{ on := 18, ground := Go.Ground.data }, { on := 16, ground := Go.Ground.chain }], guard := none }) (v := ?_) rfl (by kernel_rfl) (by kernel_rfl) (by kernel_rfl) (fun _ _ _ h => h) (by rfl) ?_ h2 ?_
  rotate_left
  · (intro wq hSw; go_simp <;> with_reducible rfl)
  try simp only [Act.put, List.setIfInBounds_toArray, List.set_cons_zero, List.set_cons_succ]
  refine take_run (i := 20) (oi := { dst := some 55, op := Go.Op.move (Go.Operand.tmp 0), type := 23, pos := "law.go:69", after := #[{ on := 19, ground := Go.Ground.guard }], guard := some (19, false) }) (v := ?_) rfl (by kernel_rfl) (by kernel_rfl) (by kernel_rfl) (fun _ _ _ h => h) (by rfl) ?_ h2 ?_
  rotate_left
  · (intro wq hSw; go_simp <;> with_reducible rfl)
  try simp only [Act.put, List.setIfInBounds_toArray, List.set_cons_zero, List.set_cons_succ]
  refine take_run (i := 22) (oi := { dst := some 57, op := Go.Op.move (Go.Operand.tmp 1), type := 25, pos := "law.go:69", after := #[{ on := 19, ground := Go.Ground.guard }], guard := some (19, false) }) (v := ?_) rfl (by kernel_rfl) (by kernel_rfl) (by kernel_rfl) (fun _ _ _ h => h) (by rfl) ?_ h2 ?_
  rotate_left
  · (intro wq hSw; go_simp <;> with_reducible rfl)
  try simp only [Act.put, List.setIfInBounds_toArray, List.set_cons_zero, List.set_cons_succ]
  refine take_run (i := 23) (oi := { dst := some 58, op := Go.Op.nilCheck (Go.Operand.tmp 57), type := 0, pos := "law.go:69", after := #[{ on := 22, ground := Go.Ground.data }, { on := 19, ground := Go.Ground.guard }], guard := some (19, false) }) (v := ?_) rfl (by kernel_rfl) (by kernel_rfl) (by kernel_rfl) (fun _ _ _ h => h) (by rfl) ?_ h2 ?_
  rotate_left
  · (intro wq hSw; go_simp <;> with_reducible rfl)
  try simp only [Act.put, List.setIfInBounds_toArray, List.set_cons_zero, List.set_cons_succ]
  refine take_run (i := 24) (oi := { dst := some 59, op := Go.Op.fieldAddr 28 (Go.Operand.tmp 58) 0, type := 0, pos := "law.go:69", after := #[{ on := 23, ground := Go.Ground.data }, { on := 19, ground := Go.Ground.guard }], guard := some (19, false) }) (v := ?_) rfl (by kernel_rfl) (by kernel_rfl) (by kernel_rfl) (fun _ _ _ h => h) (by rfl) ?_ h2 ?_
  rotate_left
  · (intro wq hSw; go_simp <;> with_reducible rfl)
  try simp only [Act.put, List.setIfInBounds_toArray, List.set_cons_zero, List.set_cons_succ]
  refine take_run (i := 25) (oi := { dst := some 60, op := Go.Op.load 26 (Go.Operand.tmp 59), type := 26, pos := "law.go:69", after := #[{ on := 24, ground := Go.Ground.data }, { on := 19, ground := Go.Ground.guard }], guard := some (19, false) }) (v := ?_) rfl (by kernel_rfl) (by kernel_rfl) (by kernel_rfl) (fun _ _ _ h => h) (by rfl) ?_ h2 ?_
  rotate_left
  · (intro wq hSw; obtain ⟨q1, q2, q3⟩ := C1.out wq hSw; go_simp <;> with_reducible rfl)
  try simp only [Act.put, List.setIfInBounds_toArray, List.set_cons_zero, List.set_cons_succ]
  refine take_run (i := 26) (oi := { dst := some 61, op := Go.Op.call { callee := Go.Callee.builtin Go.Builtin.len, args := #[Go.Operand.tmp 60], argTypes := #[26] }, type := 3, pos := "law.go:69", after := #[{ on := 25, ground := Go.Ground.data }, { on := 19, ground := Go.Ground.guard }], guard := some (19, false) }) (v := ?_) rfl (by kernel_rfl) (by kernel_rfl) (by kernel_rfl) (fun _ _ _ h => h) (by rfl) ?_ h2 ?_
  rotate_left
  · (intro wq hSw; go_simp <;> with_reducible rfl)
  try simp only [Act.put, List.setIfInBounds_toArray, List.set_cons_zero, List.set_cons_succ]
  refine take_call (i := 21) (oi := { dst := some 56, op := Go.Op.call { callee := Go.Callee.value (Go.Operand.func 43), args := #[Go.Operand.tmp 55], argTypes := #[23] }, type := 3, pos := "law.go:69", after := #[{ on := 20, ground := Go.Ground.data }, { on := 19, ground := Go.Ground.chain }, { on := 19, ground := Go.Ground.guard }], guard := some (19, false) }) rfl (by kernel_rfl) (by rfl) 43 _ (by go_simp <;> with_reducible rfl) ?_
  refine (len_any (P4.out.below h2).b).mono ?_
  rintro e y3 ⟨rfl, rfl⟩
  refine ⟨_, rfl, h2, ?_⟩
  try simp only [Act.put, List.setIfInBounds_toArray, List.set_cons_zero, List.set_cons_succ]
  refine take_run (i := 27) (oi := { dst := some 62, op := Go.Op.binOp Go.BinOp.neq 3 (Go.Operand.tmp 56) (Go.Operand.tmp 61) 3, type := 4, pos := "law.go:69", after := #[{ on := 21, ground := Go.Ground.data }, { on := 26, ground := Go.Ground.data }, { on := 19, ground := Go.Ground.guard }], guard := some (19, false) }) (v := ?_) rfl (by kernel_rfl) (by kernel_rfl) (by kernel_rfl) (fun _ _ _ h => h) (by rfl) ?_ h2 ?_
  rotate_left
  · (intro wq hSw; go_simp <;> with_reducible rfl)
  try simp only [Act.put, List.setIfInBounds_toArray, List.set_cons_zero, List.set_cons_succ]
  refine take_run (i := 28) (oi := { dst := some 63, op := Go.Op.pick (Go.Operand.tmp 54) (Go.Operand.const (Go.Value.bool true)) (Go.Operand.tmp 62), type := 4, pos := "law.go:69", after := #[{ on := 19, ground := Go.Ground.data }, { on := 27, ground := Go.Ground.data }], guard := none }) (v := ?_) rfl (by kernel_rfl) (by kernel_rfl) (by kernel_rfl) (fun _ _ _ h => h) (by rfl) ?_ h2 ?_
  rotate_left
  · (intro wq hSw; go_simp <;> with_reducible rfl)
  try simp only [Act.put, List.setIfInBounds_toArray, List.set_cons_zero, List.set_cons_succ]
  refine take_run (i := 29) (oi := { dst := some 64, op := Go.Op.move (Go.Operand.tmp 63), type := 4, pos := "law.go:69", after := #[{ on := 28, ground := Go.Ground.data }, { on := 21, ground := Go.Ground.chain }], guard := none }) (v := ?_) rfl (by kernel_rfl) (by kernel_rfl) (by kernel_rfl) (fun _ _ _ h => h) (by rfl) ?_ h2 ?_
  rotate_left
  · (intro wq hSw; go_simp <;> with_reducible rfl)
  try simp only [Act.put, List.setIfInBounds_toArray, List.set_cons_zero, List.set_cons_succ]
  refine take_run (i := 30) (oi := { dst := some 65, op := Go.Op.move (Go.Operand.tmp 0), type := 23, pos := "law.go:69", after := #[{ on := 29, ground := Go.Ground.guard }], guard := some (29, false) }) (v := ?_) rfl (by kernel_rfl) (by kernel_rfl) (by kernel_rfl) (fun _ _ _ h => h) (by rfl) ?_ h2 ?_
  rotate_left
  · (intro wq hSw; go_simp <;> with_reducible rfl)
  try simp only [Act.put, List.setIfInBounds_toArray, List.set_cons_zero, List.set_cons_succ]
  refine take_run (i := 32) (oi := { dst := some 67, op := Go.Op.move (Go.Operand.tmp 1), type := 25, pos := "law.go:69", after := #[{ on := 29, ground := Go.Ground.guard }], guard := some (29, false) }) (v := ?_) rfl (by kernel_rfl) (by kernel_rfl) (by kernel_rfl) (fun _ _ _ h => h) (by rfl) ?_ h2 ?_
  rotate_left
  · (intro wq hSw; go_simp <;> with_reducible rfl)
  try simp only [Act.put, List.setIfInBounds_toArray, List.set_cons_zero, List.set_cons_succ]
  refine take_call (i := 31) (oi := { dst := some 66, op := Go.Op.call { callee := Go.Callee.value (Go.Operand.func 44), args := #[Go.Operand.tmp 65], argTypes := #[23] }, type := 3, pos := "law.go:69", after := #[{ on := 30, ground := Go.Ground.data }, { on := 29, ground := Go.Ground.chain }, { on := 29, ground := Go.Ground.guard }], guard := some (29, false) }) rfl (by kernel_rfl) (by rfl) 44 _ (by go_simp <;> with_reducible rfl) ?_
  refine (held_any (P4.out.below h2).b).mono ?_
  rintro e y4 ⟨rfl, k4⟩
  have h4 : Below w4.heap.size w4 y4 := h2.trans (k4.mono h2.size)
  clear k4 h2
  refine ⟨_, rfl, h4, ?_⟩
  try simp only [Act.put, List.setIfInBounds_toArray, List.set_cons_zero, List.set_cons_succ]
  refine take_call (i := 33) (oi := { dst := some 68, op := Go.Op.call { callee := Go.Callee.value (Go.Operand.func 45), args := #[Go.Operand.tmp 67], argTypes := #[25] }, type := 3, pos := "law.go:69", after := #[{ on := 32, ground := Go.Ground.data }, { on := 31, ground := Go.Ground.chain }, { on := 29, ground := Go.Ground.guard }], guard := some (29, false) }) rfl (by kernel_rfl) (by rfl) 45 _ (by go_simp <;> with_reducible rfl) ?_
  refine (qheld_any (P4.out.below h4).q).mono ?_
  rintro e y5 ⟨rfl, rfl⟩
  refine ⟨_, rfl, h4, ?_⟩
  try simp only [Act.put, List.setIfInBounds_toArray, List.set_cons_zero, List.set_cons_succ]
  refine take_run (i := 34) (oi := { dst := some 69, op := Go.Op.binOp Go.BinOp.neq 3 (Go.Operand.tmp 66) (Go.Operand.tmp 68) 3, type := 4, pos := "law.go:69", after := #[{ on := 31, ground := Go.Ground.data }, { on := 33, ground := Go.Ground.data }, { on := 29, ground := Go.Ground.guard }], guard := some (29, false) }) (v := ?_) rfl (by kernel_rfl) (by kernel_rfl) (by kernel_rfl) (fun _ _ _ h => h) (by rfl) ?_ h4 ?_
  rotate_left
  · (intro wq hSw; go_simp <;> with_reducible rfl)
  try simp only [Act.put, List.setIfInBounds_toArray, List.set_cons_zero, List.set_cons_succ]
  refine take_run (i := 35) (oi := { dst := some 70, op := Go.Op.pick (Go.Operand.tmp 64) (Go.Operand.const (Go.Value.bool true)) (Go.Operand.tmp 69), type := 4, pos := "law.go:69", after := #[{ on := 29, ground := Go.Ground.data }, { on := 34, ground := Go.Ground.data }], guard := none }) (v := ?_) rfl (by kernel_rfl) (by kernel_rfl) (by kernel_rfl) (fun _ _ _ h => h) (by rfl) ?_ h4 ?_
  rotate_left
  · (intro wq hSw; go_simp <;> with_reducible rfl)
  try simp only [Act.put, List.setIfInBounds_toArray, List.set_cons_zero, List.set_cons_succ]
  refine take_run (i := 36) (oi := { dst := some 71, op := Go.Op.move (Go.Operand.tmp 70), type := 4, pos := "law.go:69", after := #[{ on := 35, ground := Go.Ground.data }, { on := 33, ground := Go.Ground.chain }], guard := none }) (v := ?_) rfl (by kernel_rfl) (by kernel_rfl) (by kernel_rfl) (fun _ _ _ h => h) (by rfl) ?_ h4 ?_
  rotate_left
  · (intro wq hSw; go_simp <;> with_reducible rfl)
  try simp only [Act.put, List.setIfInBounds_toArray, List.set_cons_zero, List.set_cons_succ]
  refine take_run (i := 37) (oi := { dst := some 72, op := Go.Op.move (Go.Operand.tmp 11), type := 66, pos := "law.go:69", after := #[{ on := 36, ground := Go.Ground.guard }], guard := some (36, false) }) (v := ?_) rfl (by kernel_rfl) (by kernel_rfl) (by kernel_rfl) (fun _ _ _ h => h) (by rfl) ?_ h4 ?_
  rotate_left
  · (intro wq hSw; go_simp <;> with_reducible rfl)
  try simp only [Act.put, List.setIfInBounds_toArray, List.set_cons_zero, List.set_cons_succ]
  refine take_run (i := 38) (oi := { dst := some 73, op := Go.Op.move (Go.Operand.tmp 1), type := 25, pos := "law.go:69", after := #[{ on := 36, ground := Go.Ground.guard }], guard := some (36, false) }) (v := ?_) rfl (by kernel_rfl) (by kernel_rfl) (by kernel_rfl) (fun _ _ _ h => h) (by rfl) ?_ h4 ?_
  rotate_left
  · (intro wq hSw; go_simp <;> with_reducible rfl)
  try simp only [Act.put, List.setIfInBounds_toArray, List.set_cons_zero, List.set_cons_succ]
  refine take_run (i := 39) (oi := { dst := some 74, op := Go.Op.fieldAddr 30 (Go.Operand.tmp 5) 4, type := 0, pos := "law.go:69", after := #[{ on := 36, ground := Go.Ground.guard }], guard := some (36, false) }) (v := ?_) rfl (by kernel_rfl) (by kernel_rfl) (by kernel_rfl) (fun _ _ _ h => h) (by rfl) ?_ h4 ?_
  rotate_left
  · (intro wq hSw; go_simp <;> with_reducible rfl)
  try simp only [Act.put, List.setIfInBounds_toArray, List.set_cons_zero, List.set_cons_succ]
  refine take_run (i := 40) (oi := { dst := some 75, op := Go.Op.load 3 (Go.Operand.tmp 74), type := 3, pos := "law.go:69", after := #[{ on := 39, ground := Go.Ground.data }, { on := 36, ground := Go.Ground.guard }], guard := some (36, false) }) (v := ?_) rfl (by kernel_rfl) (by kernel_rfl) (by kernel_rfl) (fun _ _ _ h => h) (by rfl) ?_ h4 ?_
  rotate_left
  · (intro wq hSw; obtain ⟨q1, q2, q3⟩ := C1.out wq hSw; go_simp <;> with_reducible rfl)
  try simp only [Act.put, List.setIfInBounds_toArray, List.set_cons_zero, List.set_cons_succ]
  refine take_call (i := 41) (oi := { dst := some 76, op := Go.Op.call { callee := Go.Callee.value (Go.Operand.func 47), args := #[Go.Operand.tmp 73, Go.Operand.tmp 75], argTypes := #[25, 3] }, type := 66, pos := "law.go:69", after := #[{ on := 38, ground := Go.Ground.data }, { on := 40, ground := Go.Ground.data }, { on := 36, ground := Go.Ground.chain }, { on := 36, ground := Go.Ground.guard }], guard := some (36, false) }) rfl (by kernel_rfl) (by rfl) 47 _ (by go_simp <;> with_reducible rfl) ?_
  refine (qrows_any (P4.out.below h4).q slot).mono ?_
  rintro e y6 ⟨za, zc, rfl, z6⟩
  rw [HRe.out] at z6 ⊢
  have h6 : Below w4.heap.size w4 y6 := h4.trans (z6.bel.mono h4.size)
  obtain ⟨_, _, e1, ra1⟩ := rowsAt_owned z6.row rfl HRl.out
  cases e1
  obtain ⟨_, _, e2, ra2⟩ := rowsAt_owned (owns_kept R4.out (fun g e => h6.block g (row_kind R4.out e).2.1)) rfl HRl.out
  cases e2
  have SR := sameRows_any ra za R.length rc R.length zc R R y6 ra2 ra1
  rw [decide_eq_true rfl] at SR
  clear z6 ra1 ra2 h4
  refine ⟨_, rfl, h6, ?_⟩
  try simp only [Act.put, List.setIfInBounds_toArray, List.set_cons_zero, List.set_cons_succ]
  refine take_call (i := 42) (oi := { dst := some 77, op := Go.Op.call { callee := Go.Callee.value (Go.Operand.func 46), args := #[Go.Operand.tmp 72, Go.Operand.tmp 76], argTypes := #[66, 66] }, type := 4, pos := "law.go:69", after := #[{ on := 37, ground := Go.Ground.data }, { on := 41, ground := Go.Ground.data }, { on := 41, ground := Go.Ground.chain }, { on := 36, ground := Go.Ground.guard }], guard := some (36, false) }) rfl (by kernel_rfl) (by rfl) 46 _ (by go_simp <;> with_reducible rfl) ?_
  refine (SR).mono ?_
  rintro e y7 ⟨rfl, n7, rfl⟩
  have h7 : Below w4.heap.size w4 (y6.drewN n7) := below_drewN' h6 n7
  clear SR h6
  refine ⟨_, rfl, h7, ?_⟩
  try simp only [Act.put, List.setIfInBounds_toArray, List.set_cons_zero, List.set_cons_succ]
  refine take_run (i := 43) (oi := { dst := some 78, op := Go.Op.unOp Go.UnOp.not 4 (Go.Operand.tmp 77), type := 4, pos := "law.go:69", after := #[{ on := 42, ground := Go.Ground.data }, { on := 36, ground := Go.Ground.guard }], guard := some (36, false) }) (v := ?_) rfl (by kernel_rfl) (by kernel_rfl) (by kernel_rfl) (fun _ _ _ h => h) (by rfl) ?_ h7 ?_
  rotate_left
  · (intro wq hSw; go_simp <;> with_reducible rfl)
  try simp only [Act.put, List.setIfInBounds_toArray, List.set_cons_zero, List.set_cons_succ]
  refine take_run (i := 44) (oi := { dst := some 79, op := Go.Op.pick (Go.Operand.tmp 71) (Go.Operand.const (Go.Value.bool true)) (Go.Operand.tmp 78), type := 4, pos := "law.go:69", after := #[{ on := 36, ground := Go.Ground.data }, { on := 43, ground := Go.Ground.data }], guard := none }) (v := ?_) rfl (by kernel_rfl) (by kernel_rfl) (by kernel_rfl) (fun _ _ _ h => h) (by rfl) ?_ h7 ?_
  rotate_left
  · (intro wq hSw; go_simp <;> with_reducible rfl)
  try simp only [Act.put, List.setIfInBounds_toArray, List.set_cons_zero, List.set_cons_succ]
  refine take_run (i := 45) (oi := { dst := some 80, op := Go.Op.move (Go.Operand.tmp 79), type := 4, pos := "law.go:69", after := #[{ on := 44, ground := Go.Ground.data }, { on := 42, ground := Go.Ground.chain }], guard := none }) (v := ?_) rfl (by kernel_rfl) (by kernel_rfl) (by kernel_rfl) (fun _ _ _ h => h) (by rfl) ?_ h7 ?_
  rotate_left
  · (intro wq hSw; go_simp <;> with_reducible rfl)
  try simp only [Act.put, List.setIfInBounds_toArray, List.set_cons_zero, List.set_cons_succ]
  refine take_run (i := 46) (oi := { dst := some 81, op := Go.Op.move (Go.Operand.tmp 0), type := 23, pos := "law.go:69", after := #[{ on := 45, ground := Go.Ground.guard }], guard := some (45, false) }) (v := ?_) rfl (by kernel_rfl) (by kernel_rfl) (by kernel_rfl) (fun _ _ _ h => h) (by rfl) ?_ h7 ?_
  rotate_left
  · (intro wq hSw; go_simp <;> with_reducible rfl)
  try simp only [Act.put, List.setIfInBounds_toArray, List.set_cons_zero, List.set_cons_succ]
  refine take_run (i := 49) (oi := { dst := some 84, op := Go.Op.move (Go.Operand.tmp 1), type := 25, pos := "law.go:69", after := #[{ on := 45, ground := Go.Ground.guard }], guard := some (45, false) }) (v := ?_) rfl (by kernel_rfl) (by kernel_rfl) (by kernel_rfl) (fun _ _ _ h => h) (by rfl) ?_ h7 ?_
  rotate_left
  · (intro wq hSw; go_simp <;> with_reducible rfl)
  try simp only [Act.put, List.setIfInBounds_toArray, List.set_cons_zero, List.set_cons_succ]
  refine take_call (i := 47) (oi := { dst := some 82, op := Go.Op.call { callee := Go.Callee.value (Go.Operand.func 6), args := #[Go.Operand.tmp 81], argTypes := #[23] }, type := 31, pos := "law.go:69", after := #[{ on := 46, ground := Go.Ground.data }, { on := 45, ground := Go.Ground.chain }, { on := 45, ground := Go.Ground.guard }], guard := some (45, false) }) rfl (by kernel_rfl) (by rfl) 6 _ (by go_simp <;> with_reducible rfl) ?_
  refine (bytes_any (P4.out.below h7).b).mono ?_
  rintro e y8 ⟨xa, xc, rfl, xo, k8⟩
  have h8 : Below w4.heap.size w4 y8 := h7.trans (k8.mono h7.size)
  obtain ⟨_, _, e1, xs, _, _⟩ := owned_seen xo (bytes_low HF.out)
  cases e1
  have T8 : ∀ w', Below y8.heap.size y8 w' → (convert 31 9 (.slice xa (bookB L).length xc)).run Tryz.prog w' = .ok (.string (textOf (bookB L))) w' := fun w' hb' => run_to_text w' xa _ xc _ (xs.below hb')
  clear xo xs k8 h7
  refine ⟨_, rfl, h8, held_more (S' := fun w' => Below y8.heap.size y8 w') (fun w' h => h8.trans (h.mono h8.size)) _ _ _ _ ?_⟩
  try simp only [Act.put, List.setIfInBounds_toArray, List.set_cons_zero, List.set_cons_succ]
  have hh8 : Below y8.heap.size y8 y8 := Below.refl _ _
  refine take_text (i := 48) (oi := { dst := some 83, op := Go.Op.convert 31 9 (Go.Operand.tmp 82), type := 9, pos := "law.go:69", after := #[{ on := 47, ground := Go.Ground.data }, { on := 45, ground := Go.Ground.guard }], guard := some (45, false) }) rfl (by kernel_rfl) (by kernel_rfl) (by kernel_rfl) 31 9 (.tmp 82) _ _ (fun _ _ _ h => h) (by rfl) rfl rfl T8 hh8 ?_
  try simp only [Act.put, List.setIfInBounds_toArray, List.set_cons_zero, List.set_cons_succ]
  refine take_call (i := 50) (oi := { dst := some 85, op := Go.Op.call { callee := Go.Callee.value (Go.Operand.func 48), args := #[Go.Operand.tmp 84], argTypes := #[25] }, type := 31, pos := "law.go:69", after := #[{ on := 49, ground := Go.Ground.data }, { on := 47, ground := Go.Ground.chain }, { on := 45, ground := Go.Ground.guard }], guard := some (45, false) }) rfl (by kernel_rfl) (by rfl) 48 _ (by go_simp <;> with_reducible rfl) ?_
  refine (qbytes_any (P4.out.below h8).q).mono ?_
  rintro e y9 ⟨ua, uc, rfl, uo⟩
  have h9 : Below w4.heap.size w4 y9 := h8.trans (uo.bel.mono h8.size)
  obtain ⟨_, _, e1, us, _, _⟩ := owned_seen uo.row (bytes_low HF.out)
  cases e1
  have T9 : ∀ w', Below y9.heap.size y9 w' → (convert 31 9 (.slice ua (bookB L).length uc)).run Tryz.prog w' = .ok (.string (textOf (bookB L))) w' := fun w' hb' => run_to_text w' ua _ uc _ (us.below hb')
  have hb9 : Below y8.heap.size y8 y9 := uo.bel
  clear uo us T8
  refine ⟨_, rfl, hb9, held_more (S' := fun w' => Below y9.heap.size y9 w') (fun w' h => hb9.trans (h.mono hb9.size)) _ _ _ _ ?_⟩
  try simp only [Act.put, List.setIfInBounds_toArray, List.set_cons_zero, List.set_cons_succ]
  have hh9 : Below y9.heap.size y9 y9 := Below.refl _ _
  refine take_text (i := 51) (oi := { dst := some 86, op := Go.Op.convert 31 9 (Go.Operand.tmp 85), type := 9, pos := "law.go:69", after := #[{ on := 50, ground := Go.Ground.data }, { on := 45, ground := Go.Ground.guard }], guard := some (45, false) }) rfl (by kernel_rfl) (by kernel_rfl) (by kernel_rfl) 31 9 (.tmp 85) _ _ (fun _ _ _ h => h) (by rfl) rfl rfl T9 hh9 ?_
  try simp only [Act.put, List.setIfInBounds_toArray, List.set_cons_zero, List.set_cons_succ]
  refine take_run (i := 52) (oi := { dst := some 87, op := Go.Op.binOp Go.BinOp.neq 9 (Go.Operand.tmp 83) (Go.Operand.tmp 86) 9, type := 4, pos := "law.go:69", after := #[{ on := 48, ground := Go.Ground.data }, { on := 51, ground := Go.Ground.data }, { on := 45, ground := Go.Ground.guard }], guard := some (45, false) }) (v := ?_) rfl (by kernel_rfl) (by kernel_rfl) (by kernel_rfl) (fun _ _ _ h => h) (by rfl) ?_ hh9 ?_
  rotate_left
  · (intro wq hSw; go_simp <;> with_reducible rfl)
  try simp only [Act.put, List.setIfInBounds_toArray, List.set_cons_zero, List.set_cons_succ]
  refine take_run (i := 53) (oi := { dst := some 88, op := Go.Op.pick (Go.Operand.tmp 80) (Go.Operand.const (Go.Value.bool true)) (Go.Operand.tmp 87), type := 4, pos := "law.go:69", after := #[{ on := 45, ground := Go.Ground.data }, { on := 52, ground := Go.Ground.data }], guard := none }) (v := ?_) rfl (by kernel_rfl) (by kernel_rfl) (by kernel_rfl) (fun _ _ _ h => h) (by rfl) ?_ hh9 ?_
  rotate_left
  · (intro wq hSw; go_simp <;> with_reducible rfl)
  try simp only [Act.put, List.setIfInBounds_toArray, List.set_cons_zero, List.set_cons_succ]
  refine wpAnyH_done (by kernel_rfl) ?_ _
  show onwardB _ .normal _ _
  unfold onwardB
  have B39 : Hid (Below w3.heap.size w3 y9) := B34.out.trans (h9.mono B34.out.size)
  have R9 : Hid (y9.ownsRow w3.heap.size 50 2 (.slice ra R.length rc) R.length (cells2 R)) := owns_kept R4.out (fun g e => h9.block g (row_kind R4.out e).2.1)
  clear hHeld h8 h9 hh8 hh9 hb9 T9 C1 R4 hxs hxy B34 P4 O4
  go_wp2_with fail
  go_loopw [12] (fun i wr => ∃ (k : Nat) (ys : List Value), k ≤ R.length ∧ i = .int .i64 k ∧ Hid (wr.ownsRow w3.heap.size 50 2 (.slice ra R.length rc) R.length ys) ∧ Hid (Below w3.heap.size w3 wr)) (fun i _ => R.length - (intOf i).toNat)
  case atStart => exact ⟨0, cells2 R, Nat.zero_le _, rfl, R9.out, B39.out⟩
  case round =>
    obtain ⟨k, ys, hk, rfl, ho, hb⟩ := hrel
    by_cases hlt : k < R.length
    · obtain ⟨g, c, e, hg1, hg2⟩ := ho.out.form (by omega)
      cases e
      have hlen : ys.length = R.length * 2 := ho.out.1
      have hcell : wr.cell? ⟨g, k * 2 + 1, none⟩ = ys[k * 2 + 1]? := ho.out.cellAt (k * 2 + 1) (by omega)
      have hc2 : wr.cell? ⟨g, k * 2 + 1, none⟩ = some (ys[k * 2 + 1]'(by omega)) := by rw [hcell, List.getElem?_eq_getElem (by omega)]
      generalize ys[k * 2 + 1]'(by omega) = yk at hc2
      have hfr := ho.out.frozenAt (k * 2 + 1)
      have HS : Hid ((wr.setCell ⟨g, k * 2 + 1, none⟩ (.int .i64 99)).ownsRow w3.heap.size 50 2 (.slice (some ⟨g, 0, none⟩) R.length rc) R.length (ys.set (k * 2 + 1) (.int .i64 99))) := (ho.out.stored (k * 2 + 1) (.int .i64 99)).1
      have HB : Hid (Below w3.heap.size w3 (wr.setCell ⟨g, k * 2 + 1, none⟩ (.int .i64 99))) := hb.out.setCell (p := ⟨g, k * 2 + 1, none⟩) hg1 _
      have hlt' : (k : Int) < (R.length : Int) := by omega
      have hrl := HRl.out
      clear ho hb hcell hlen hg1 hg2
      go_wp2
      go_roundw
      case rel => exact ⟨k + 1, ys.set (k * 2 + 1) (.int .i64 99), by omega, by go_num, HS, HB⟩
      case measure => simp only [intOf]; omega
    · obtain rfl : k = R.length := by omega
      have PX : Hid (Pair wr base base' N N' sv (.slice qa L.length qc) L) := P3.out.below hb.out
      obtain ⟨A, hA⟩ : ∃ A, rowsOf (-1) L = A := ⟨_, rfl⟩
      have HAl : Hid (A.length ≤ 1000) := by show _ ≤ _; rw [← hA]; exact rows_low HF.out (-1)
      have G5 := qrows_any PX.out.q (-1)
      rw [hA] at G5
      have HA : Hid _ := hA
      clear hA
      go_wp2_with fail
      refine G5.mono ?_
      clear G5
      rintro e w5 ⟨aa, ac, rfl, z5⟩
      have B5 : Hid (Below w3.heap.size w3 w5) := hb.out.trans (z5.bel.mono hb.out.size)
      have P5 : Hid (Pair w5 base base' N N' sv (.slice qa L.length qc) L) := PX.out.below z5.bel
      have A5 : Hid (w5.ownsRow wr.heap.size 50 2 (.slice aa A.length ac) A.length (cells2 A)) := z5.row
      obtain ⟨w6, hw6⟩ : ∃ w6, w5.alloc (.cells #[.slice aa A.length ac] 66) = w6 := ⟨_, rfl⟩
      have b6 : Below w5.heap.size w5 w6 := by rw [← hw6]; exact (Below.refl _ w5).alloc (Nat.le_refl _) _
      have X6 : Hid (w6.heap[w5.heap.size]? = some (.cells #[.slice aa A.length ac] 66 (0, 0))) := by rw [← hw6]; exact heap_alloc_new w5 _
      have B6 : Hid (Below w3.heap.size w3 w6) := B5.out.trans (b6.mono B5.out.size)
      have P6 : Hid (Pair w6 base base' N N' sv (.slice qa L.length qc) L) := P5.out.below b6
      have A6 : Hid (w6.ownsRow wr.heap.size 50 2 (.slice aa A.length ac) A.length (cells2 A)) := owns_kept A5.out (fun g e => b6.block g (row_kind A5.out e).2.1)
      have G6 := each_any P6.out.b P6.out.t
      rw [HA.out] at G6
      clear z5 b6 hb ho PX B5 P5 A5
      go_wp2_with fail
      clear hw6
      refine G6.mono ?_
      clear G6
      rintro e w7 ⟨Bv, ea, ec, rfl, hBv, hbx, hro, b7⟩
      have hsq := seqB_some w7 (.func 97) #[] #[.pointer (some ⟨Bv, 0, none⟩)]
      go_wp2_with fail
      obtain ⟨w8, hw8⟩ : ∃ w8, w7.alloc (.cells #[.int .i64 0] 3) = w8 := ⟨_, rfl⟩
      have b8 : Below w7.heap.size w7 w8 := by rw [← hw8]; exact (Below.refl _ w7).alloc (Nat.le_refl _) _
      have Bi : w8.heap[w7.heap.size]? = some (.cells #[.int .i64 ((0 : Nat) : Int)] 3 (0, 0)) := by rw [← hw8]; exact heap_alloc_new w7 _
      have b68 : Below w6.heap.size w6 w8 := b7.trans (b8.mono b7.size)
      have B8 : Below w3.heap.size w3 w8 := B6.out.trans (b68.mono B6.out.size)
      have P8 : Hid (Pair w8 base base' N N' sv (.slice qa L.length qc) L) := P6.out.below b68
      have F0 : Hid (RgS w w8 w8 w7.heap.size 0) := ⟨B03.out.trans (B8.mono B03.out.size), by have := O3'.out.2; have := B6.out.size; have := b7.size; omega, ⟨_, Bi⟩, ⟨rfl, rfl, rfl, Nat.le_refl _, fun _ _ _ => rfl⟩, Bi⟩
      have X8 : Hid (w8.heap[w5.heap.size]? = some (.cells #[.slice aa A.length ac] 66 (0, 0))) := (b68.block _ (Array.getElem?_eq_some_iff.1 X6.out).1).trans X6.out
      have A8 : Hid (w8.ownsRow wr.heap.size 50 2 (.slice aa A.length ac) A.length (cells2 A)) := owns_kept A6.out (fun g e => b68.block g (row_kind A6.out e).2.1)
      have R8 : Hid (w8.heap[w.heap.size + 1]? = some (.cells #[.bool false] 4 (0, 0))) := (B8.block _ O3'.out.1).trans R3.out
      have V8 : Hid (w8.cell? ⟨Bv, 0, none⟩ = some (.slice ea A.length ec)) := by
        have := (b8.block _ (Array.getElem?_eq_some_iff.1 hbx).1).trans hbx
        show w8.cell? ⟨Bv, 0, none⟩ = _
        simp [World.cell?, this]
      have E8 : Hid (w8.ownsRow w6.heap.size 50 2 (.slice ea A.length ec) A.length (cells2 A)) := owns_kept hro (fun g e => b8.block g (row_kind hro e).2.1)
      have NE : Hid (w5.heap.size ≠ w7.heap.size ∧ w.heap.size + 1 ≠ w7.heap.size) := ⟨fun e => by have h1 := (Array.getElem?_eq_some_iff.1 X6.out).1; have := b7.size; omega, fun e => by have := O3'.out.1; have := B6.out.size; have := b7.size; omega⟩
      rw [hw8]
      have B38 : Hid (Below w3.heap.size w3 w8) := B8
      have L37 : Hid (w3.heap.size ≤ w7.heap.size) := Nat.le_trans B6.out.size b7.size
      clear hw8 hsq b8 Bi b68 B8 P6 X6 A6 b7 hbx hro hBv B6 B39 R9
      refine (wpIn_wide (n := 5)).1 ?_
      refine actIn_gen (fun Af hAf => ?_)
      refine range_R (n := 5) (gf := 97) (lb := #[.pointer (some ⟨Bv, 0, none⟩)]) (w0 := w8) (by rw [hAf]; rfl) (enters_of Tryz.func97 (by kernel_rfl) rfl)
        (values1_seq 4 Bv w6.heap.size ec ea A w8 V8.out E8.out HAl.out) KcV.tr KcV.bk (Below.refl _ _) (fun _ => rfl)
        (fun pre X => pre.length ≤ A.length ∧ RgS w w8 X w7.heap.size pre.length) (fun _ _ _ => False) ?hI (fun _ _ _ _ h _ => h) ⟨Nat.zero_le _, F0.out⟩
        (fun pre x a' X => ∃ Bx, w8.heap.size ≤ Bx ∧ X.heap[Bx]? = some (.cells #[.string x.1, .int .i64 x.2] 50 (0, 0)) ∧ A[pre.length]? = some x ∧ a' = { tmps := (Af.tmps.setIfInBounds 106 (.agg #[.string x.1, .int .i64 x.2])).setIfInBounds 16 (.pointer (some ⟨Bx, 0, none⟩)), defers := [] })
        ?hAx ?assign ?body ?done (fun _ _ _ _ _ _ h _ => h.elim)
      case hI =>
        rintro pre X Y ⟨h1, h2⟩ hb
        exact ⟨h1, h2.low hb⟩
      case hAx =>
        rintro pre x a' _ X Y row ⟨Bx, h0, h1, h2, h3⟩ hg hrow
        exact ⟨Bx, h0, (grownBy_keeps_cells hg (fun r e => (hrow r e).2) h1 rfl).trans h1, h2, h3⟩
      case assign =>
        rintro l' pre x X K ⟨h1, h2⟩ hx hK
        have bA : ∀ o, Below X.heap.size X (X.alloc o) := fun o => (Below.refl _ X).alloc (Nat.le_refl _) o
        have HKK : Hid _ := hK
        have H2 : Hid (RgS w w8 X w7.heap.size pre.length) := h2
        clear hK h2
        subst hAf
        have HX : Hid (A[pre.length]? = some x) := hx
        obtain ⟨xn, xa⟩ := x
        dsimp only [encV]
        gi_wp2
        refine HKK.out _ _ ((KeepsOthers.alloc _ _).from _) (fun x e cs t z q => ((bA _).block _ (Array.getElem?_eq_some_iff.1 q).1).trans q) ⟨h1, H2.out.low ((bA _).mono H2.out.grown.size)⟩ ⟨X.heap.size, H2.out.grown.size, heap_alloc_new X _, HX.out, rfl⟩
      case body =>
        rintro l' pre x a' X ⟨h1, h2⟩ ⟨Bx, h0, hbx, hx, rfl⟩
        subst hAf
        obtain ⟨xn, xa⟩ := x
        have hlt : pre.length < A.length := (List.getElem?_eq_some_iff.1 hx).1
        have kw := h2.kept X8.out NE.out.1
        have d2 : X.cell? ⟨w5.heap.size, 0, none⟩ = some (.slice aa A.length ac) := by simp [World.cell?, kw]
        have d3 : X.cell? ⟨w7.heap.size, 0, none⟩ = some (.int .i64 (pre.length : Nat)) := by simp [World.cell?, h2.box]
        have f3 : X.frozen? ⟨w7.heap.size, 0, none⟩ = false := by simp [World.frozen?, h2.box]
        have j2 : ¬ A.length ≤ pre.length := by omega
        have j3 : decide (A.length ≤ pre.length) = false := decide_eq_false j2
        have j4 : pre.length < A.length := hlt
        obtain ⟨_, _, e9, ra9⟩ := rowsAt_owned (h2.row A8.out (by decide)) rfl HAl.out
        cases e9
        obtain ⟨gb, go, rfl, y0, y1⟩ := ra9.at hlt
        rw [show A[pre.length] = (xn, xa) from by rw [List.getElem?_eq_getElem hlt] at hx; exact Option.some.inj hx] at y0 y1
        simp only at y0 y1
        have e0 : X.cell? ⟨Bx, 0, none⟩ = some (.string xn) := by simp [World.cell?, hbx]
        have e1 : X.cell? ⟨Bx, 1, none⟩ = some (.int .i64 xa) := by simp [World.cell?, hbx]
        have hxs := text_self xn
        have H2 : Hid (RgS w w8 X w7.heap.size pre.length) := h2
        have HB : Hid (X.heap[Bx]? = some (.cells #[.string xn, .int .i64 xa] 50 (0, 0))) := hbx
        have HLT : Hid (pre.length < A.length) := hlt
        clear h1 h2 hx hbx kw ra9 hlt
        simp only [List.setIfInBounds_toArray, List.set_cons_zero, List.set_cons_succ]
        gi_wp2_with fail
        refine round_quiet l' (by kernel_rfl) (by kernel_rfl) (by kernel_rfl) ?_
        repeat (quiet_step_in (fail))
        refine wpQuietIn_nil ?_
        intro _ hw'
        obtain ⟨nq, rfl⟩ := hw'
        have hw1 : IntKind.i64.wrap ((pre.length : Int) + 1) = ((pre.length + 1 : Nat) : Int) := by rw [IntKind.wrap_i64]; have := HLT.out; have := HAl.out; omega
        clear d2 y0 y1 j2 j3 j4 e0 e1 hxs
        gi_wp2
        have ee : ((pre.length : Int) + 1) = ((pre.length + 1 : Nat) : Int) := by simp
        rw [ee]
        have HN := (H2.out.drewN nq).next (pre.length + 1)
        have kk := KeepsOthers.setCell (X.drewN nq) ⟨w7.heap.size, 0, none⟩ (.int .i64 ((pre.length + 1 : Nat) : Int))
        refine ⟨⟨kk.size, fun i o _ hi ho => kk.same i o hi ho⟩, ?_, ?_, ?_⟩
        · intro x e cs t z q
          rw [Below.heap_setCell _ _ _ _ (fun e2 => ?_)]
          · exact q
          · have e3 : x.block = w7.heap.size := by simpa using e2
            have h9 := row_kind (H2.out.row E8.out (by decide)) (g := x.block) (by rw [e]; rfl)
            obtain ⟨_, _, cur, h10⟩ := h9
            rw [e3, H2.out.box] at h10
            injection h10 with h10
            injection h10 with _ h10
            exact absurd h10 (by decide)
        · rw [List.length_append]; exact HLT.out
        · rw [List.length_append]; exact HN
      case done =>
        rintro D xs X hD hS ⟨h1, h2⟩ hK
        subst hAf
        obtain rfl : xs = A := hS
        have BX : Hid (Below w3.heap.size w3 X) := B38.out.grown h2.grown B38.out.size (fun k e => by have := Option.some.inj e; have := L37.out; omega)
        have PX : Hid (Pair X base base' N N' sv (.slice qa L.length qc) L) := P3.out.below BX.out
        have kw := h2.kept X8.out NE.out.1
        have kr := h2.kept R8.out NE.out.2
        have AX : Hid (X.ownsRow wr.heap.size 50 2 (.slice aa xs.length ac) xs.length (cells2 xs)) := h2.row A8.out (by decide)
        have CX : Hid (∀ wq, X.grownBy wq (some (w.heap.size + 1)) → wq.cell? ⟨w5.heap.size, 0, none⟩ = some (.slice aa xs.length ac) ∧ wq.cell? ⟨w7.heap.size, 0, none⟩ = some (.int .i64 (xs.length : Nat))) := fun wq hb => by
          have h5 := (hb.block _ (Array.getElem?_eq_some_iff.1 kw).1 (fun e => by have e := Option.some.inj e; rw [e, kr] at kw; injection kw with kw; injection kw with _ kw; exact absurd kw (by decide))).trans kw
          have h6 := (hb.block _ (Array.getElem?_eq_some_iff.1 h2.box).1 (fun e => by have e := Option.some.inj e; exact NE.out.2 e.symm)).trans h2.box
          exact ⟨by simp [World.cell?, h5], by simp [World.cell?, h6]⟩
        have KR : Hid (X.heap[w.heap.size + 1]? = some (.cells #[.bool false] 4 (0, 0))) := kr
        have BWX : Hid (Below w.heap.size w X) := h2.all
        have HD : Hid (w.heap.size + 2 ≤ D) := by show _ ≤ D; have := (Array.getElem?_eq_some_iff.1 R8.out).1; omega
        have HKD : Hid (X.heap[D]? = some (.deferred (some []))) := hK
        clear h1 h2 hK kw kr hD
        go_wp2_with fail
        refine onwardB_wp ?_
        have hb0 : Below X.heap.size X X.drew := (Below.refl _ X).drew
        refine wp_region_held_drew (S := fun w' => X.grownBy w' (some (w.heap.size + 1))) (by kernel_rfl) ⟨hb0.os, hb0.tape, hb0.output, hb0.size, fun k hk _ => hb0.block k hk⟩ (fun hHeld => ?_)
        refine take_run (i := 0) (oi := { dst := some 121, op := Go.Op.load 3 (Go.Operand.tmp 15), type := 3, pos := "law.go:87", after := #[], guard := none }) (v := ?_) rfl (by kernel_rfl) (by kernel_rfl) (by kernel_rfl) (fun _ _ _ h => h) (by rfl) ?_ hHeld ?_
        rotate_left
        · (intro wq hSw; obtain ⟨q1, q2⟩ := CX.out wq hSw; go_simp <;> with_reducible rfl)
        try simp only [Act.put, List.setIfInBounds_toArray, List.set_cons_zero, List.set_cons_succ]
        refine take_run (i := 1) (oi := { dst := some 122, op := Go.Op.load 66 (Go.Operand.tmp 13), type := 66, pos := "law.go:87", after := #[], guard := none }) (v := ?_) rfl (by kernel_rfl) (by kernel_rfl) (by kernel_rfl) (fun _ _ _ h => h) (by rfl) ?_ hHeld ?_
        rotate_left
        · (intro wq hSw; obtain ⟨q1, q2⟩ := CX.out wq hSw; go_simp <;> with_reducible rfl)
        try simp only [Act.put, List.setIfInBounds_toArray, List.set_cons_zero, List.set_cons_succ]
        refine take_run (i := 2) (oi := { dst := some 123, op := Go.Op.call { callee := Go.Callee.builtin Go.Builtin.len, args := #[Go.Operand.tmp 122], argTypes := #[66] }, type := 3, pos := "law.go:87", after := #[{ on := 1, ground := Go.Ground.data }], guard := none }) (v := ?_) rfl (by kernel_rfl) (by kernel_rfl) (by kernel_rfl) (fun _ _ _ h => h) (by rfl) ?_ hHeld ?_
        rotate_left
        · (intro wq hSw; go_simp <;> with_reducible rfl)
        try simp only [Act.put, List.setIfInBounds_toArray, List.set_cons_zero, List.set_cons_succ]
        refine take_run (i := 3) (oi := { dst := some 124, op := Go.Op.binOp Go.BinOp.eql 3 (Go.Operand.tmp 121) (Go.Operand.tmp 123) 3, type := 4, pos := "law.go:87", after := #[{ on := 0, ground := Go.Ground.data }, { on := 2, ground := Go.Ground.data }], guard := none }) (v := ?_) rfl (by kernel_rfl) (by kernel_rfl) (by kernel_rfl) (fun _ _ _ h => h) (by rfl) ?_ hHeld ?_
        rotate_left
        · (intro wq hSw; go_simp <;> with_reducible rfl)
        try simp only [Act.put, List.setIfInBounds_toArray, List.set_cons_zero, List.set_cons_succ]
        refine take_run (i := 4) (oi := { dst := some 125, op := Go.Op.move (Go.Operand.tmp 124), type := 4, pos := "law.go:87", after := #[{ on := 3, ground := Go.Ground.data }], guard := none }) (v := ?_) rfl (by kernel_rfl) (by kernel_rfl) (by kernel_rfl) (fun _ _ _ h => h) (by rfl) ?_ hHeld ?_
        rotate_left
        · (intro wq hSw; go_simp <;> with_reducible rfl)
        try simp only [Act.put, List.setIfInBounds_toArray, List.set_cons_zero, List.set_cons_succ]
        refine take_run (i := 5) (oi := { dst := some 126, op := Go.Op.move (Go.Operand.tmp 0), type := 23, pos := "law.go:87", after := #[{ on := 4, ground := Go.Ground.guard }], guard := some (4, true) }) (v := ?_) rfl (by kernel_rfl) (by kernel_rfl) (by kernel_rfl) (fun _ _ _ h => h) (by rfl) ?_ hHeld ?_
        rotate_left
        · (intro wq hSw; go_simp <;> with_reducible rfl)
        try simp only [Act.put, List.setIfInBounds_toArray, List.set_cons_zero, List.set_cons_succ]
        refine take_run (i := 7) (oi := { dst := some 128, op := Go.Op.load 66 (Go.Operand.tmp 13), type := 66, pos := "law.go:87", after := #[{ on := 4, ground := Go.Ground.guard }], guard := some (4, true) }) (v := ?_) rfl (by kernel_rfl) (by kernel_rfl) (by kernel_rfl) (fun _ _ _ h => h) (by rfl) ?_ hHeld ?_
        rotate_left
        · (intro wq hSw; obtain ⟨q1, q2⟩ := CX.out wq hSw; go_simp <;> with_reducible rfl)
        try simp only [Act.put, List.setIfInBounds_toArray, List.set_cons_zero, List.set_cons_succ]
        refine take_call (i := 6) (oi := { dst := some 127, op := Go.Op.call { callee := Go.Callee.value (Go.Operand.func 40), args := #[Go.Operand.tmp 126, Go.Operand.const (Go.Value.int Go.IntKind.i64 (-1))], argTypes := #[23, 3] }, type := 66, pos := "law.go:87", after := #[{ on := 5, ground := Go.Ground.data }, { on := 4, ground := Go.Ground.chain }, { on := 4, ground := Go.Ground.guard }], guard := some (4, true) }) rfl (by kernel_rfl) (by rfl) 40 _ (by go_simp <;> with_reducible rfl) ?_
        refine (rows_any (PX.out.below hb0).b (PX.out.below hb0).t (-1)).mono ?_
        rintro e y1 ⟨ua, uc, rfl, uo, k1⟩
        rw [HA.out] at uo ⊢
        have hb1 : Below X.heap.size X y1 := hb0.trans (k1.mono hb0.size)
        have g1 : X.grownBy y1 (some (w.heap.size + 1)) := ⟨hb1.os, hb1.tape, hb1.output, hb1.size, fun k hk _ => hb1.block k hk⟩
        obtain ⟨_, _, e1, ra1⟩ := rowsAt_owned uo rfl HAl.out
        cases e1
        obtain ⟨_, _, e2, ra2⟩ := rowsAt_owned (owns_kept AX.out (fun g e => hb1.block g (row_kind AX.out e).2.1)) rfl HAl.out
        cases e2
        have SR := sameRows_any ua aa xs.length uc xs.length ac xs xs y1 ra1 ra2
        rw [decide_eq_true rfl] at SR
        clear uo k1 ra1 ra2 hb0 hHeld
        refine ⟨_, rfl, g1, ?_⟩
        try simp only [Act.put, List.setIfInBounds_toArray, List.set_cons_zero, List.set_cons_succ]
        refine take_call (i := 8) (oi := { dst := some 129, op := Go.Op.call { callee := Go.Callee.value (Go.Operand.func 46), args := #[Go.Operand.tmp 127, Go.Operand.tmp 128], argTypes := #[66, 66] }, type := 4, pos := "law.go:87", after := #[{ on := 6, ground := Go.Ground.data }, { on := 7, ground := Go.Ground.data }, { on := 6, ground := Go.Ground.chain }, { on := 4, ground := Go.Ground.guard }], guard := some (4, true) }) rfl (by kernel_rfl) (by rfl) 46 _ (by go_simp <;> with_reducible rfl) ?_
        refine (SR).mono ?_
        rintro e y2 ⟨rfl, n2, rfl⟩
        have hb2 : Below X.heap.size X (y1.drewN n2) := below_drewN' hb1 n2
        have g2 : X.grownBy (y1.drewN n2) (some (w.heap.size + 1)) := ⟨hb2.os, hb2.tape, hb2.output, hb2.size, fun k hk _ => hb2.block k hk⟩
        clear SR hb1 g1
        refine ⟨_, rfl, g2, ?_⟩
        try simp only [Act.put, List.setIfInBounds_toArray, List.set_cons_zero, List.set_cons_succ]
        refine take_run (i := 9) (oi := { dst := some 130, op := Go.Op.pick (Go.Operand.tmp 125) (Go.Operand.tmp 129) (Go.Operand.const (Go.Value.bool false)), type := 4, pos := "law.go:87", after := #[{ on := 4, ground := Go.Ground.data }, { on := 8, ground := Go.Ground.data }], guard := none }) (v := ?_) rfl (by kernel_rfl) (by kernel_rfl) (by kernel_rfl) (fun _ _ _ h => h) (by rfl) ?_ g2 ?_
        rotate_left
        · (intro wq hSw; go_simp <;> with_reducible rfl)
        try simp only [Act.put, List.setIfInBounds_toArray, List.set_cons_zero, List.set_cons_succ]
        have r2 : (y1.drewN n2).heap[w.heap.size + 1]? = some (.cells #[.bool false] 4 (0, 0)) := (hb2.block _ (Array.getElem?_eq_some_iff.1 KR.out).1).trans KR.out
        have c2 : (y1.drewN n2).cell? ⟨w.heap.size + 1, 0, none⟩ = some (.bool false) := by simp only [World.cell?, r2]; rfl
        have f2 : (y1.drewN n2).frozen? ⟨w.heap.size + 1, 0, none⟩ = false := by simp only [World.frozen?, r2]; rfl
        generalize y1.drewN n2 = Y at *
        refine take_effB (i := 10) (oi := { dst := none, op := Go.Op.store 4 (Go.Operand.tmp 6) (Go.Operand.tmp 130), type := 0, pos := "law.go:87", after := #[{ on := 9, ground := Go.Ground.data }, { on := 8, ground := Go.Ground.chain }, { on := 0, ground := Go.Ground.phase }, { on := 1, ground := Go.Ground.phase }, { on := 2, ground := Go.Ground.phase }, { on := 3, ground := Go.Ground.phase }, { on := 4, ground := Go.Ground.phase }, { on := 5, ground := Go.Ground.phase }, { on := 6, ground := Go.Ground.phase }, { on := 7, ground := Go.Ground.phase }, { on := 8, ground := Go.Ground.phase }, { on := 9, ground := Go.Ground.phase }], guard := none }) (w' := Y.setCell ⟨w.heap.size + 1, 0, none⟩ (.bool true)) rfl (by kernel_rfl) (by rfl) (by go_simp <;> with_reducible rfl) ⟨g2.os, g2.tape, g2.output, by simpa [World.setCell] using g2.size, fun k hk hr => by rw [Below.heap_setCell _ _ _ k (fun e => hr (by simpa using e))]; exact g2.block k hk hr⟩ ?_
        try simp only [Act.put]
        refine wpAnyH_done (by kernel_rfl) ?_ _
        show onwardB _ .normal _ _
        unfold onwardB
        have ZZ : Hid (Below w.heap.size w (Y.setCell ⟨w.heap.size + 1, 0, none⟩ (.bool true))) := (BWX.out.trans (hb2.mono BWX.out.size)).setCell (p := ⟨w.heap.size + 1, 0, none⟩) (by show w.heap.size ≤ w.heap.size + 1; omega) _
        have Q2 : Hid ((Y.setCell ⟨w.heap.size + 1, 0, none⟩ (.bool true)).cell? ⟨w.heap.size + 1, 0, none⟩ = some (.bool true)) := World.cell?_setCell_same' _ _ _ (by rw [c2]; rfl)
        have KD : Hid ((Y.setCell ⟨w.heap.size + 1, 0, none⟩ (.bool true)).heap[D]? = some (.deferred (some []))) := by
          show (Y.setCell ⟨w.heap.size + 1, 0, none⟩ (.bool true)).heap[D]? = _
          rw [Below.heap_setCell _ _ _ D (fun e => by have e' : D = w.heap.size + 1 := (by simpa using e); have := HD.out; omega), hb2.block D (Array.getElem?_eq_some_iff.1 HKD.out).1]
          exact HKD.out
        clear hb2 g2 r2 c2 f2
        go_wp2
        refine ⟨by simp, .inl ⟨_, _, rfl, run_takeDeferred KD.out, ?_⟩⟩
        refine ⟨.bool true, resultsB_bool rfl _ _ (w.heap.size + 1) true rfl ?_, rfl, ?_⟩
        · exact cell_kept Q2.out (grownBy_putObj' _ D (.deferred none)) (fun r e => by cases e; exact ⟨_, KD.out, rfl⟩)
        · exact ZZ.out.grown (grownBy_putObj' _ D (.deferred none)) ZZ.out.size (fun k e => by cases e; have := HD.out; omega)
end Go.Proofs.YtdchnfggmkokhaaGreatDoor
