/- The statement CodecReads: the walk. -/
import Derived.Test.YtfdlgiomnmnhgaaDoorOne
import Derived.Test.YtfdlgiomnmnhgaaDoorSteps
import Derived.Test.YtfdlgiomnmnhgaaDoorCounts
namespace Go.Proofs.YtfdlgiomnmnhgaaDoor
open Go.RowKit Cod
set_option linter.unusedVariables false

theorem owns_less {w : World} {base g n c : Nat} {l : List (BitVec 8)} {b : BitVec 8} (h : w.ownsRow base 5 1 (.slice (some ⟨g, 0, none⟩) (n + 1) c) (n + 1) (cellsOf (l ++ [b]))) (hl : l.length = n) : w.ownsRow base 5 1 (.slice (some ⟨g, 0, none⟩) n c) n (cellsOf l) := by
  rcases h.2 with ⟨e, _⟩ | ⟨g', c', cur, e, hb, hg, hnc, hcm, hcs, htake⟩
  · cases e
  · cases e
    refine ⟨by rw [cellsOf_length]; omega, .inr ⟨g, c, cur, rfl, hb, hg, by omega, hcm, hcs, ?_⟩⟩
    have h2 := congrArg (List.take n) htake
    rw [List.take_take, cellsOf_append] at h2
    have h3 : (cellsOf l).length = n := by rw [cellsOf_length]; exact hl
    rw [List.take_left' h3, Nat.min_eq_left (by omega)] at h2
    rw [Nat.mul_one]
    exact h2
theorem owns_below2 {w w' : World} {base n size : Nat} {e : TypeId} {v : Value} {xs : List Value} (h : w.ownsRow base e size v n xs) (hb : Below w.heap.size w w') : w'.ownsRow base e size v n xs := by
  refine ⟨h.1, h.2.imp id ?_⟩
  rintro ⟨g, cap, cur, e1, e2, e3, e4⟩
  exact ⟨g, cap, cur, e1, e2, by rw [hb.block g (Array.getElem?_eq_some_iff.1 e3).1]; exact e3, e4⟩
theorem ints_at {w : World} {a : Option Addr} {n k : Nat} {zs : List Int} (h : IntsAt w a n zs) (hk : k < n) : ∃ b off z, a = some ⟨b, off, none⟩ ∧ w.cell? ⟨b, off + k, none⟩ = some (.int .i64 z) := by
  have h1 := h.1
  rcases h.2.2.2 with h4 | ⟨b, off, rfl, hc⟩
  · omega
  · exact ⟨b, off, _, rfl, hc k (by omega)⟩
set_option maxRecDepth 100000 in
set_option maxHeartbeats 6400000 in
theorem reads_walk (ba : Option Addr) (bn bc : Nat) (l : List (BitVec 8)) (ka : Option Addr) (kn kc : Nat) (zs : List Int) (most : Int) (w : World) (hT : Tabs w) (hb : Seen w ba bn l) (hbn : ba = none → bc = 0) (hbl : bn + 1 ≤ 140737488355328) (hz : IntsAt w ka kn zs) (hm0 : -9223372036854775808 ≤ most) (hm1 : most < 9223372036854775808) :
    Calls Tryd.prog 4 #[.slice ba bn bc, .slice ka kn kc, .int .i64 most] w fun e w' => e = .returned (.bool true) ∧ Below w.heap.size w w' := by
  obtain rfl : bn = l.length := hb.1
  have HT : Hid (Tabs w) := hT
  have SB : Hid (∀ w', Below w.heap.size w w' → Seen w' ba l.length l) := fun w' hb' => hb.below hb'
  have NB : Hid _ := hbn
  have HBL : Hid (l.length + 1 ≤ 140737488355328) := hbl
  have HZ : Hid (IntsAt w ka kn zs) := hz
  have HMO : Hid (-9223372036854775808 ≤ most ∧ most < 9223372036854775808) := ⟨hm0, hm1⟩
  have KN : Hid (∀ w', Below w.heap.size w w' → Calls Tryd.prog 27 #[] w' fun e w'' => e = .returned (.bool true) ∧ Below w.heap.size w w'') := fun w' hb' => known_later hb' HT.out
  clear hT hb hbn hbl hz hm0 hm1
  go_enter Tryd.func4, Tryd.ntmps4
  go_wp2_with fail
  refine (lent_any ba l.length bc l w (SB.out w (Below.refl _ _)) NB.out HBL.out).mono ?_
  rintro e u1 ⟨g, oc, rfl, ow, bu1⟩
  have OW : Hid (u1.ownsRow w.heap.size 5 1 (.slice (some ⟨g, 0, none⟩) l.length oc) l.length (cellsOf l)) := owns_less ow rfl
  have U1 : Hid (Below w.heap.size w u1) := bu1
  obtain ⟨_, _, e', so, no, _⟩ := owned_seen OW.out (by have := HBL.out; unfold maxLen; omega)
  cases e'
  clear ow bu1
  go_wp2_with fail
  refine (newReader_new (some ⟨g, 0, none⟩) l.length oc l u1 so no (by have := HBL.out; omega)).mono ?_
  clear so no
  rintro e u2 ⟨R, rfl, hR, r2, hst, bu2⟩
  have hRl := r2.lt
  have OW2 : Hid (u2.ownsRow w.heap.size 5 1 (.slice (some ⟨g, 0, none⟩) l.length oc) l.length (cellsOf l)) := owns_below2 OW.out bu2
  have U2 : Hid (Below w.heap.size w u2) := U1.out.trans (bu2.mono U1.out.size)
  have HG : Hid (g < u1.heap.size) := (OW.out.lt g rfl).2
  have HST : Hid (∀ w'', (∀ k, u1.heap.size ≤ k → k ≤ R → w''.heap[k]? = u2.heap[k]?) → Rdr w'' R l 0 0) := hst
  have HR : Hid (u1.heap.size ≤ R ∧ R < u2.heap.size) := ⟨hR, hRl⟩
  clear hst bu2 r2 hR hRl
  go_wp2_with fail
  refine (spoil_row w.heap.size (.slice (some ⟨g, 0, none⟩) l.length oc) l.length _ u2 OW2.out U2.out.size HBL.out).mono ?_
  rintro e u3 ⟨⟨v3, rfl⟩, g3⟩
  have R3 : Hid (Rdr u3 R l 0 0) := HST.out u3 (fun k h1 h2 => g3.block k (by have := HR.out; omega) (fun e => by have e2 : k = g := Option.some.inj e; have := HG.out; omega))
  have U3 : Hid (Below w.heap.size w u3) := U2.out.grown g3 U2.out.size (fun k e => (OW2.out.lt k e).1)
  have HR3 : Hid (R < u3.heap.size) := Nat.lt_of_lt_of_le HR.out.2 g3.size
  clear g3
  go_wp2_with fail
  refine (refOf_any ba l.length bc l u3 (SB.out u3 U3.out) NB.out (by have := HBL.out; omega)).mono ?_
  rintro e u4 ⟨Q, rfl, hQ, q4, b4⟩
  have TW4 : Hid (Two u4 R Q u3.heap.size u4.heap.size l 0 0) := ⟨Rdr.below R3.out b4, q4, by have := HR3.out; omega, HR3.out, Nat.le_refl _⟩
  have U4 : Hid (Below w.heap.size w u4) := U3.out.trans (b4.mono U3.out.size)
  have HRW : Hid (w.heap.size ≤ R) := Nat.le_trans U1.out.size HR.out.1
  clear hQ q4 b4 R3 HST HG OW OW2 HR3
  generalize u3.heap.size = AA at *
  generalize hBB : u4.heap.size = BB at *
  clear hBB
  go_wp2
  go_loopw [10] (fun i wr => ∃ k p y : Nat, k ≤ kn ∧ k ≤ 200 ∧ i = .int .i64 k ∧ Two wr R Q AA BB l p y ∧ Below w.heap.size w wr) (fun i _ => kn - (intOf i).toNat)
  case atStart => exact ⟨0, 0, 0, Nat.zero_le _, by omega, rfl, TW4.out, U4.out⟩
  case round =>
    obtain ⟨k, p, y, hkn, hk2, rfl, htw, hbw⟩ := hrel
    have TW : Hid (Two wr.drew R Q AA BB l p y) := ⟨htw.r, htw.q, htw.rq, htw.ra, htw.bs⟩
    have BW : Hid (Below w.heap.size w wr) := hbw
    clear htw hbw TW4 U4
    by_cases hlt : k < kn ∧ k < 200
    · obtain ⟨hlt1, hlt2⟩ := hlt
      have h1 : (k : Int) < (kn : Int) := by omega
      have h2 : (k : Int) < 200 := by omega
      obtain ⟨kb, koff, kd, rfl, hkd⟩ := ints_at HZ.out hlt1
      have KC : Hid (∀ w', Below w.heap.size w w' → w'.cell? ⟨kb, koff + k, none⟩ = some (.int .i64 kd)) := fun w' hb' => (hb'.cell (p := ⟨kb, koff + k, none⟩) (World.block_lt_of_cell? w _ hkd)).trans hkd
      clear hkd
      go_wp2_with fail
      refine wp_region_held_drew (S := fun w' => w'.cell? ⟨kb, koff + k, none⟩ = some (.int .i64 kd)) (by kernel_rfl) (KC.out _ (Below.drew BW.out)) (fun hHeld => ?_)
      refine take_run (i := 0) (oi := { dst := some 32, op := Go.Op.move (Go.Operand.tmp 8), type := 48, pos := "law.go:70", after := #[], guard := none }) (v := ?_) rfl (by kernel_rfl) (by kernel_rfl) (by kernel_rfl) (fun _ _ _ h => h) (by rfl) ?_ hHeld ?_
      rotate_left
      · (intro wq hSw; have s0 : wq.cell? ⟨kb, koff + k, none⟩ = some (.int .i64 kd) := hSw; go_simp <;> with_reducible rfl)
      try simp only [Act.put, List.setIfInBounds_toArray, List.set_cons_zero, List.set_cons_succ]
      refine take_run (i := 1) (oi := { dst := some 33, op := Go.Op.move (Go.Operand.tmp 9), type := 50, pos := "law.go:70", after := #[], guard := none }) (v := ?_) rfl (by kernel_rfl) (by kernel_rfl) (by kernel_rfl) (fun _ _ _ h => h) (by rfl) ?_ hHeld ?_
      rotate_left
      · (intro wq hSw; have s0 : wq.cell? ⟨kb, koff + k, none⟩ = some (.int .i64 kd) := hSw; go_simp <;> with_reducible rfl)
      try simp only [Act.put, List.setIfInBounds_toArray, List.set_cons_zero, List.set_cons_succ]
      refine take_run (i := 2) (oi := { dst := some 34, op := Go.Op.move (Go.Operand.tmp 1), type := 47, pos := "law.go:70", after := #[], guard := none }) (v := ?_) rfl (by kernel_rfl) (by kernel_rfl) (by kernel_rfl) (fun _ _ _ h => h) (by rfl) ?_ hHeld ?_
      rotate_left
      · (intro wq hSw; have s0 : wq.cell? ⟨kb, koff + k, none⟩ = some (.int .i64 kd) := hSw; go_simp <;> with_reducible rfl)
      try simp only [Act.put, List.setIfInBounds_toArray, List.set_cons_zero, List.set_cons_succ]
      refine take_run (i := 3) (oi := { dst := some 35, op := Go.Op.move (Go.Operand.tmp 10), type := 3, pos := "law.go:70", after := #[], guard := none }) (v := ?_) rfl (by kernel_rfl) (by kernel_rfl) (by kernel_rfl) (fun _ _ _ h => h) (by rfl) ?_ hHeld ?_
      rotate_left
      · (intro wq hSw; have s0 : wq.cell? ⟨kb, koff + k, none⟩ = some (.int .i64 kd) := hSw; go_simp <;> with_reducible rfl)
      try simp only [Act.put, List.setIfInBounds_toArray, List.set_cons_zero, List.set_cons_succ]
      refine take_run (i := 4) (oi := { dst := some 36, op := Go.Op.indexAddr 47 (Go.Operand.tmp 34) (Go.Operand.tmp 35), type := 0, pos := "law.go:70", after := #[{ on := 2, ground := Go.Ground.data }, { on := 3, ground := Go.Ground.data }], guard := none }) (v := ?_) rfl (by kernel_rfl) (by kernel_rfl) (by kernel_rfl) (fun _ _ _ h => h) (by rfl) ?_ hHeld ?_
      rotate_left
      · (intro wq hSw; have s0 : wq.cell? ⟨kb, koff + k, none⟩ = some (.int .i64 kd) := hSw; go_simp <;> with_reducible rfl)
      try simp only [Act.put, List.setIfInBounds_toArray, List.set_cons_zero, List.set_cons_succ]
      refine take_run (i := 5) (oi := { dst := some 37, op := Go.Op.load 3 (Go.Operand.tmp 36), type := 3, pos := "law.go:70", after := #[{ on := 4, ground := Go.Ground.data }], guard := none }) (v := ?_) rfl (by kernel_rfl) (by kernel_rfl) (by kernel_rfl) (fun _ _ _ h => h) (by rfl) ?_ hHeld ?_
      rotate_left
      · (intro wq hSw; have s0 : wq.cell? ⟨kb, koff + k, none⟩ = some (.int .i64 kd) := hSw; go_simp <;> with_reducible rfl)
      try simp only [Act.put, List.setIfInBounds_toArray, List.set_cons_zero, List.set_cons_succ]
      refine take_run (i := 6) (oi := { dst := some 38, op := Go.Op.move (Go.Operand.tmp 2), type := 3, pos := "law.go:70", after := #[], guard := none }) (v := ?_) rfl (by kernel_rfl) (by kernel_rfl) (by kernel_rfl) (fun _ _ _ h => h) (by rfl) ?_ hHeld ?_
      rotate_left
      · (intro wq hSw; have s0 : wq.cell? ⟨kb, koff + k, none⟩ = some (.int .i64 kd) := hSw; go_simp <;> with_reducible rfl)
      try simp only [Act.put, List.setIfInBounds_toArray, List.set_cons_zero, List.set_cons_succ]
      refine take_call (i := 7) (oi := { dst := some 39, op := Go.Op.call { callee := Go.Callee.value (Go.Operand.func 30), args := #[Go.Operand.tmp 32, Go.Operand.tmp 33, Go.Operand.tmp 37, Go.Operand.tmp 38], argTypes := #[48, 50, 3, 3] }, type := 4, pos := "law.go:70", after := #[{ on := 0, ground := Go.Ground.data }, { on := 1, ground := Go.Ground.data }, { on := 5, ground := Go.Ground.data }, { on := 6, ground := Go.Ground.data }], guard := none }) rfl (by kernel_rfl) (by rfl) 30 _ (by go_simp <;> with_reducible rfl) ?_
      refine (one_any R Q AA BB l p y kd most HMO.out.1 HMO.out.2 wr.drew TW.out).mono ?_
      rintro e x1 ⟨rfl, p', y', t1, k1⟩
      have T1 : Hid (Two x1 R Q AA BB l p' y') := t1
      have B1 : Hid (Below w.heap.size w x1) := (Below.drew BW.out).trans (k1.below w.heap.size HRW.out (Below.drew BW.out).size)
      obtain ⟨_, _, _, z1, _⟩ := t1.q.cells
      refine ⟨_, rfl, KC.out x1 B1.out, held_more (S' := fun w' => ∃ q, w' = x1.drewN q) (fun w' h => by obtain ⟨q, rfl⟩ := h; exact KC.out _ (below_drewN' B1.out q)) _ _ _ _ ?_⟩
      try simp only [Act.put, List.setIfInBounds_toArray, List.set_cons_zero, List.set_cons_succ]
      have hh1 : ∃ q, x1 = x1.drewN q := ⟨0, rfl⟩
      clear t1 k1 hHeld
      refine take_run (i := 8) (oi := { dst := some 40, op := Go.Op.unOp Go.UnOp.not 4 (Go.Operand.tmp 39), type := 4, pos := "law.go:70", after := #[{ on := 7, ground := Go.Ground.data }], guard := none }) (v := ?_) rfl (by kernel_rfl) (by kernel_rfl) (by kernel_rfl) (fun _ _ _ h => h) (by rfl) ?_ hh1 ?_
      rotate_left
      · (intro wq hSw; obtain ⟨q, rfl⟩ := hSw; go_simp <;> with_reducible rfl)
      try simp only [Act.put, List.setIfInBounds_toArray, List.set_cons_zero, List.set_cons_succ]
      refine take_run (i := 9) (oi := { dst := some 41, op := Go.Op.move (Go.Operand.tmp 40), type := 4, pos := "law.go:70", after := #[{ on := 8, ground := Go.Ground.data }, { on := 7, ground := Go.Ground.chain }], guard := none }) (v := ?_) rfl (by kernel_rfl) (by kernel_rfl) (by kernel_rfl) (fun _ _ _ h => h) (by rfl) ?_ hh1 ?_
      rotate_left
      · (intro wq hSw; obtain ⟨q, rfl⟩ := hSw; go_simp <;> with_reducible rfl)
      try simp only [Act.put, List.setIfInBounds_toArray, List.set_cons_zero, List.set_cons_succ]
      refine take_run (i := 10) (oi := { dst := some 42, op := Go.Op.move (Go.Operand.tmp 8), type := 48, pos := "law.go:70", after := #[{ on := 9, ground := Go.Ground.guard }], guard := some (9, false) }) (v := ?_) rfl (by kernel_rfl) (by kernel_rfl) (by kernel_rfl) (fun _ _ _ h => h) (by rfl) ?_ hh1 ?_
      rotate_left
      · (intro wq hSw; obtain ⟨q, rfl⟩ := hSw; go_simp <;> with_reducible rfl)
      try simp only [Act.put, List.setIfInBounds_toArray, List.set_cons_zero, List.set_cons_succ]
      refine take_run (i := 12) (oi := { dst := some 44, op := Go.Op.move (Go.Operand.tmp 9), type := 50, pos := "law.go:70", after := #[{ on := 9, ground := Go.Ground.guard }], guard := some (9, false) }) (v := ?_) rfl (by kernel_rfl) (by kernel_rfl) (by kernel_rfl) (fun _ _ _ h => h) (by rfl) ?_ hh1 ?_
      rotate_left
      · (intro wq hSw; obtain ⟨q, rfl⟩ := hSw; go_simp <;> with_reducible rfl)
      try simp only [Act.put, List.setIfInBounds_toArray, List.set_cons_zero, List.set_cons_succ]
      refine take_run (i := 13) (oi := { dst := some 45, op := Go.Op.nilCheck (Go.Operand.tmp 44), type := 0, pos := "law.go:70", after := #[{ on := 12, ground := Go.Ground.data }, { on := 9, ground := Go.Ground.guard }], guard := some (9, false) }) (v := ?_) rfl (by kernel_rfl) (by kernel_rfl) (by kernel_rfl) (fun _ _ _ h => h) (by rfl) ?_ hh1 ?_
      rotate_left
      · (intro wq hSw; obtain ⟨q, rfl⟩ := hSw; go_simp <;> with_reducible rfl)
      try simp only [Act.put, List.setIfInBounds_toArray, List.set_cons_zero, List.set_cons_succ]
      refine take_run (i := 14) (oi := { dst := some 46, op := Go.Op.fieldAddr 55 (Go.Operand.tmp 45) 1, type := 0, pos := "law.go:70", after := #[{ on := 13, ground := Go.Ground.data }, { on := 9, ground := Go.Ground.guard }], guard := some (9, false) }) (v := ?_) rfl (by kernel_rfl) (by kernel_rfl) (by kernel_rfl) (fun _ _ _ h => h) (by rfl) ?_ hh1 ?_
      rotate_left
      · (intro wq hSw; obtain ⟨q, rfl⟩ := hSw; go_simp <;> with_reducible rfl)
      try simp only [Act.put, List.setIfInBounds_toArray, List.set_cons_zero, List.set_cons_succ]
      refine take_run (i := 15) (oi := { dst := some 47, op := Go.Op.load 3 (Go.Operand.tmp 46), type := 3, pos := "law.go:70", after := #[{ on := 14, ground := Go.Ground.data }, { on := 9, ground := Go.Ground.guard }], guard := some (9, false) }) (v := ?_) rfl (by kernel_rfl) (by kernel_rfl) (by kernel_rfl) (fun _ _ _ h => h) (by rfl) ?_ hh1 ?_
      rotate_left
      · (intro wq hSw; obtain ⟨q, rfl⟩ := hSw; go_simp <;> with_reducible rfl)
      try simp only [Act.put, List.setIfInBounds_toArray, List.set_cons_zero, List.set_cons_succ]
      refine take_call (i := 11) (oi := { dst := some 43, op := Go.Op.call { callee := Go.Callee.value (Go.Operand.func 31), args := #[Go.Operand.tmp 42], argTypes := #[48] }, type := 3, pos := "law.go:70", after := #[{ on := 10, ground := Go.Ground.data }, { on := 9, ground := Go.Ground.chain }, { on := 9, ground := Go.Ground.guard }], guard := some (9, false) }) rfl (by kernel_rfl) (by rfl) 31 _ (by go_simp <;> with_reducible rfl) ?_
      refine (rAt_any R l p' y' x1 T1.out.r).mono ?_
      rintro e x2 ⟨rfl, rfl⟩
      refine ⟨_, rfl, hh1, ?_⟩
      try simp only [Act.put, List.setIfInBounds_toArray, List.set_cons_zero, List.set_cons_succ]
      refine take_run (i := 16) (oi := { dst := some 48, op := Go.Op.binOp Go.BinOp.neq 3 (Go.Operand.tmp 43) (Go.Operand.tmp 47) 3, type := 4, pos := "law.go:70", after := #[{ on := 11, ground := Go.Ground.data }, { on := 15, ground := Go.Ground.data }, { on := 9, ground := Go.Ground.guard }], guard := some (9, false) }) (v := ?_) rfl (by kernel_rfl) (by kernel_rfl) (by kernel_rfl) (fun _ _ _ h => h) (by rfl) ?_ hh1 ?_
      rotate_left
      · (intro wq hSw; obtain ⟨q, rfl⟩ := hSw; go_simp <;> with_reducible rfl)
      try simp only [Act.put, List.setIfInBounds_toArray, List.set_cons_zero, List.set_cons_succ]
      refine take_run (i := 17) (oi := { dst := some 49, op := Go.Op.pick (Go.Operand.tmp 41) (Go.Operand.const (Go.Value.bool true)) (Go.Operand.tmp 48), type := 4, pos := "law.go:70", after := #[{ on := 9, ground := Go.Ground.data }, { on := 16, ground := Go.Ground.data }], guard := none }) (v := ?_) rfl (by kernel_rfl) (by kernel_rfl) (by kernel_rfl) (fun _ _ _ h => h) (by rfl) ?_ hh1 ?_
      rotate_left
      · (intro wq hSw; obtain ⟨q, rfl⟩ := hSw; go_simp <;> with_reducible rfl)
      try simp only [Act.put, List.setIfInBounds_toArray, List.set_cons_zero, List.set_cons_succ]
      refine take_run (i := 18) (oi := { dst := some 50, op := Go.Op.move (Go.Operand.tmp 49), type := 4, pos := "law.go:70", after := #[{ on := 17, ground := Go.Ground.data }, { on := 11, ground := Go.Ground.chain }], guard := none }) (v := ?_) rfl (by kernel_rfl) (by kernel_rfl) (by kernel_rfl) (fun _ _ _ h => h) (by rfl) ?_ hh1 ?_
      rotate_left
      · (intro wq hSw; obtain ⟨q, rfl⟩ := hSw; go_simp <;> with_reducible rfl)
      try simp only [Act.put, List.setIfInBounds_toArray, List.set_cons_zero, List.set_cons_succ]
      refine take_run (i := 19) (oi := { dst := some 51, op := Go.Op.move (Go.Operand.tmp 8), type := 48, pos := "law.go:70", after := #[{ on := 18, ground := Go.Ground.guard }], guard := some (18, false) }) (v := ?_) rfl (by kernel_rfl) (by kernel_rfl) (by kernel_rfl) (fun _ _ _ h => h) (by rfl) ?_ hh1 ?_
      rotate_left
      · (intro wq hSw; obtain ⟨q, rfl⟩ := hSw; go_simp <;> with_reducible rfl)
      try simp only [Act.put, List.setIfInBounds_toArray, List.set_cons_zero, List.set_cons_succ]
      refine take_run (i := 21) (oi := { dst := some 53, op := Go.Op.move (Go.Operand.tmp 9), type := 50, pos := "law.go:70", after := #[{ on := 18, ground := Go.Ground.guard }], guard := some (18, false) }) (v := ?_) rfl (by kernel_rfl) (by kernel_rfl) (by kernel_rfl) (fun _ _ _ h => h) (by rfl) ?_ hh1 ?_
      rotate_left
      · (intro wq hSw; obtain ⟨q, rfl⟩ := hSw; go_simp <;> with_reducible rfl)
      try simp only [Act.put, List.setIfInBounds_toArray, List.set_cons_zero, List.set_cons_succ]
      refine take_call (i := 20) (oi := { dst := some 52, op := Go.Op.call { callee := Go.Callee.value (Go.Operand.func 32), args := #[Go.Operand.tmp 51], argTypes := #[48] }, type := 26, pos := "law.go:70", after := #[{ on := 19, ground := Go.Ground.data }, { on := 18, ground := Go.Ground.chain }, { on := 18, ground := Go.Ground.guard }], guard := some (18, false) }) rfl (by kernel_rfl) (by rfl) 32 _ (by go_simp <;> with_reducible rfl) ?_
      refine (rEnd_any R l p' y' _ T1.out.r).mono ?_
      rintro e x3 ⟨rfl, n3, rfl⟩
      refine ⟨_, rfl, ⟨n3, rfl⟩, ?_⟩
      try simp only [Act.put, List.setIfInBounds_toArray, List.set_cons_zero, List.set_cons_succ]
      have hh3 : ∃ q, x2.drewN n3 = x2.drewN q := ⟨n3, rfl⟩
      refine take_call (i := 22) (oi := { dst := some 54, op := Go.Op.call { callee := Go.Callee.value (Go.Operand.func 33), args := #[Go.Operand.tmp 53], argTypes := #[50] }, type := 26, pos := "law.go:70", after := #[{ on := 21, ground := Go.Ground.data }, { on := 20, ground := Go.Ground.chain }, { on := 18, ground := Go.Ground.guard }], guard := some (18, false) }) rfl (by kernel_rfl) (by rfl) 33 _ (by go_simp <;> with_reducible rfl) ?_
      refine (refREnd_any Q AA BB l p' y' _ (T1.out.q.drawn n3)).mono ?_
      rintro e x4 ⟨rfl, n4, rfl⟩
      have hh4 : ∃ q, (x2.drewN n3).drewN n4 = x2.drewN q := ⟨n3 + n4, by simp [World.drewN, Nat.add_assoc]⟩
      refine ⟨_, rfl, hh4, ?_⟩
      try simp only [Act.put, List.setIfInBounds_toArray, List.set_cons_zero, List.set_cons_succ]
      refine take_run (i := 23) (oi := { dst := some 55, op := Go.Op.binOp Go.BinOp.neq 26 (Go.Operand.tmp 52) (Go.Operand.tmp 54) 26, type := 4, pos := "law.go:70", after := #[{ on := 20, ground := Go.Ground.data }, { on := 22, ground := Go.Ground.data }, { on := 18, ground := Go.Ground.guard }], guard := some (18, false) }) (v := ?_) rfl (by kernel_rfl) (by kernel_rfl) (by kernel_rfl) (fun _ _ _ h => h) (by rfl) ?_ hh4 ?_
      rotate_left
      · (intro wq hSw; obtain ⟨q, rfl⟩ := hSw; go_simp <;> with_reducible rfl)
      try simp only [Act.put, List.setIfInBounds_toArray, List.set_cons_zero, List.set_cons_succ]
      refine take_run (i := 24) (oi := { dst := some 56, op := Go.Op.pick (Go.Operand.tmp 50) (Go.Operand.const (Go.Value.bool true)) (Go.Operand.tmp 55), type := 4, pos := "law.go:70", after := #[{ on := 18, ground := Go.Ground.data }, { on := 23, ground := Go.Ground.data }], guard := none }) (v := ?_) rfl (by kernel_rfl) (by kernel_rfl) (by kernel_rfl) (fun _ _ _ h => h) (by rfl) ?_ hh4 ?_
      rotate_left
      · (intro wq hSw; obtain ⟨q, rfl⟩ := hSw; go_simp <;> with_reducible rfl)
      try simp only [Act.put, List.setIfInBounds_toArray, List.set_cons_zero, List.set_cons_succ]
      refine wpAnyH_done (by kernel_rfl) ?_ _
      have T5 : Hid (Two (x2.drewN (n3 + n4)) R Q AA BB l p' y') := ⟨T1.out.r, T1.out.q.drawn _, T1.out.rq, T1.out.ra, T1.out.bs⟩
      have B5 : Hid (Below w.heap.size w (x2.drewN (n3 + n4))) := below_drewN' B1.out _
      clear hh4 hh1 hh3 z1 T1 B1
      go_wp2
      go_roundw
      case rel => exact ⟨k + 1, p', y', by omega, by omega, by go_num, T5.out, B5.out⟩
      case measure => simp only [intOf]; omega
    · have hge : ¬ ((k : Int) < (kn : Int)) ∨ ((k : Int) < (kn : Int) ∧ ¬ ((k : Int) < 200)) := by omega
      clear hlt TW HRW
      rcases hge with hge | ⟨hge, hge2⟩
      all_goals
        go_wp2_with fail
        refine (nilUint _).mono ?_
        rintro e x ⟨rfl, rfl⟩
        go_wp2_with fail
        refine (nilInt _).mono ?_
        rintro e x ⟨rfl, rfl⟩
        go_wp2_with fail
        refine (nilBytes _).mono ?_
        rintro e x ⟨na, nc, rfl, bx⟩
        have BX : Hid (Below w.heap.size w x) := BW.out.trans (bx.mono BW.out.size)
        clear bx
        go_wp2_with fail
        refine (nilText _).mono ?_
        rintro e x' ⟨rfl, rfl⟩
        go_wp2_with fail
        refine (nilBool _).mono ?_
        rintro e x' ⟨rfl, rfl⟩
        go_wp2_with fail
        refine (nilCount 5 _).mono ?_
        rintro e x' ⟨rfl, rfl⟩
        go_wp2_with fail
        refine (nilEnd _).mono ?_
        rintro e x' ⟨rfl, rfl⟩
        go_wp2_with fail
        refine (nilAt _).mono ?_
        rintro e x' ⟨rfl, rfl⟩
        go_wp2_with fail
        refine (KN.out _ BX.out).mono ?_
        rintro e z ⟨rfl, bz⟩
        go_wp2
        go_ret
        exact ⟨rfl, bz⟩
end Go.Proofs.YtfdlgiomnmnhgaaDoor

