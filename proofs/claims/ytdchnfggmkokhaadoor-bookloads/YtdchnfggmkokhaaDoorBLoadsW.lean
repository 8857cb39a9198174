/- BookLoads: the walk. -/
import Derived.Test.YtdchnfggmkokhaaDoorBAlike
import Derived.Test.YtdchnfggmkokhaaDoorBQLoad
import Derived.Test.YtdchnfggmkokhaaDoorBLent
namespace Go.Proofs.YtdchnfggmkokhaaDoor
open Go.RowKit Cod
set_option linter.unusedVariables false

theorem ld_form {w w1 : World} {l : List (BitVec 8)} {e : Ending} (h : LdTold w w1 l e) : ∃ pa ei, e = .returned (.tuple #[.pointer pa, .int .i64 ei]) := by
  rcases h with ⟨_, rfl⟩ | ⟨_, N, sv, rfl, _⟩
  · exact ⟨_, _, rfl⟩
  · exact ⟨_, _, rfl⟩
theorem qld_form {w w1 : World} {l : List (BitVec 8)} {e : Ending} (h : QLdTold w w1 l e) : ∃ pa ei, e = .returned (.tuple #[.pointer pa, .int .i64 ei]) := by
  rcases h with ⟨_, rfl⟩ | ⟨_, _, rfl⟩ | ⟨_, N, sv, rfl, _⟩
  · exact ⟨_, _, rfl⟩
  · exact ⟨_, _, rfl⟩
  · exact ⟨_, _, rfl⟩
theorem own_lessB {w : World} {base g c n : Nat} {l : List (BitVec 8)} {x : BitVec 8} (h : w.ownsRow base 5 1 (.slice (some ⟨g, 0, none⟩) (n + 1) c) (n + 1) (cellsOf (l ++ [x]))) (hl : l.length = n) : w.ownsRow base 5 1 (.slice (some ⟨g, 0, none⟩) n c) n (cellsOf l) := by
  rcases h.2 with ⟨e, _⟩ | ⟨g', c', cur, e, hb, hg, hnc, hcm, hcs, ht⟩
  · cases e
  · injection e with e1 _ e3
    injection e1 with e1
    injection e1 with e1
    subst e1
    subst e3
    refine ⟨by rw [cellsOf_length, hl, Nat.mul_one], .inr ⟨g, c, cur, rfl, hb, hg, by omega, hcm, hcs, ?_⟩⟩
    have := congrArg (List.take (n * 1)) ht
    rw [List.take_take, Nat.min_eq_left (by omega), cellsOf_append, List.take_append_of_le_length (by rw [cellsOf_length, hl, Nat.mul_one]; exact Nat.le_refl _), show List.take (n * 1) (cellsOf l) = cellsOf l from List.take_of_length_le (by rw [cellsOf_length, hl, Nat.mul_one]; exact Nat.le_refl _)] at this
    exact this
set_option maxRecDepth 100000 in
set_option maxHeartbeats 8000000 in
theorem bookLoads_any (pa : Option Addr) (len cap : Nat) (l : List (BitVec 8)) (w : World) (hT : Tabs w) (h : Seen w pa len l) (hnil : pa = none → cap = 0) (hm : len + 1 ≤ 140737488355328) :
    Calls Tryd.prog 3 #[.slice pa len cap] w fun e w' => e = .returned (.bool true) ∧ Below w.heap.size w w' := by
  obtain rfl : len = l.length := h.1
  have HT : Hid (Tabs w) := hT
  have HS : Hid (Seen w pa l.length l) := h
  have HN : Hid (pa = none → cap = 0) := hnil
  have HM : Hid (l.length + 1 ≤ 140737488355328) := hm
  have CL := lent_any pa l.length cap l w h hnil hm
  clear hT h hnil hm
  go_enter Tryd.func3, Tryd.ntmps3
  go_wp2_with fail
  refine CL.mono ?_
  clear CL
  rintro e w1 ⟨g, c, rfl, o1, b1⟩
  have B1 : Hid (Below w.heap.size w w1) := b1
  have O1 : Hid (w1.ownsRow w.heap.size 5 1 (.slice (some ⟨g, 0, none⟩) (l.length + 1) c) (l.length + 1) (cellsOf (l ++ [167#8]))) := o1
  obtain ⟨_, _, es1, ss1, _, _⟩ := owned_seen o1 (by have := HM.out; unfold maxLen; omega)
  cases es1
  have S1 : Hid (Seen w1 (some ⟨g, 0, none⟩) l.length l) := by
    have := ss1.take l.length (by simp)
    rwa [List.take_left] at this
  have HG : Hid (w.heap.size ≤ g ∧ g < w1.heap.size) := World.ownsRow.lt o1 g rfl
  have LD := load_any (some ⟨g, 0, none⟩) l.length c l w1 S1.out (fun e => by cases e) (by have := HM.out; omega)
  clear b1 o1 ss1
  go_wp2_with fail
  refine LD.mono ?_
  clear LD
  rintro e w2 ⟨t2, b2⟩
  obtain ⟨pb, be, rfl⟩ := ld_form t2
  have T2 : Hid (LdTold w1 w2 l _) := t2
  have B2 : Hid (Below w1.heap.size w1 w2) := b2
  have W2 : Hid (Below w.heap.size w w2) := B1.out.trans (b2.mono B1.out.size)
  have QD := qload_any pa l.length cap l w2 (HS.out.below W2.out) HN.out (by have := HM.out; omega)
  clear t2 b2
  go_wp2_with fail
  refine QD.mono ?_
  clear QD
  rintro e w3 ⟨t3, b3⟩
  obtain ⟨qb, qe, rfl⟩ := qld_form t3
  have B3 : Hid (Below w2.heap.size w2 w3) := b3
  have B13 : Hid (Below w1.heap.size w1 w3) := B2.out.trans (b3.mono B2.out.size)
  have W3 : Hid (Below w.heap.size w w3) := B1.out.trans (B13.out.mono B1.out.size)
  have O3 : Hid (w3.ownsRow w.heap.size 5 1 (.slice (some ⟨g, 0, none⟩) (l.length + 1) c) (l.length + 1) (cellsOf (l ++ [167#8]))) := owns_kept O1.out (fun k e => B13.out.block k (row_kind O1.out e).2.1)
  have KP := kept_any g c l.length l pa cap w3 w.heap.size O3.out (HS.out.below W3.out) HM.out
  have SP := spoil_row w.heap.size (.slice (some ⟨g, 0, none⟩) l.length c) l.length l w3 (own_lessB O3.out rfl) W3.out.size HM.out
  have two := ld_two T2.out t3
  clear t3 b3 T2
  rcases two with ⟨y, hy, e1, e2⟩ | ⟨N, sv, N', sv', L, e1, e2, hb, hq, hl⟩
  · cases e1
    cases e2
    have hy' : ¬ (be = 0) := hy
    have hy2 : (be != 0) = true := by simpa using hy
    clear hy
    go_wp2_with fail
    refine KP.mono ?_
    clear KP
    rintro e w4 ⟨rfl, rfl⟩
    go_wp2_with fail
    refine SP.mono ?_
    clear SP
    rintro e w5 ⟨⟨u, rfl⟩, g5'⟩
    have g5 : w4.grownBy w5 (some g) := g5'
    clear g5'
    have W5 : Hid (Below w.heap.size w w5) := W3.out.grown g5 W3.out.size (fun k e => by have := Option.some.inj e; have := HG.out.1; omega)
    have KN := knownB_any w5
    clear g5
    go_wp2_with fail
    refine KN.mono ?_
    clear KN
    rintro e w6 ⟨rfl, b6⟩
    have W6 : Hid (Below w.heap.size w w6) := W5.out.trans (b6.mono W5.out.size)
    clear b6
    go_wp2
    go_ret
    exact ⟨rfl, W6.out⟩
  · cases e1
    cases e2
    have HB : Hid (BookIn w3 w1.heap.size N sv L) := hb.below B3.out
    have HQ : Hid (RefB w3 w2.heap.size N' sv' L) := hq
    have HL : Hid (bookB L = l) := hl
    clear hb hq hl
    go_wp2_with fail
    refine KP.mono ?_
    clear KP
    rintro e w4 ⟨rfl, rfl⟩
    go_wp2_with fail
    refine SP.mono ?_
    clear SP
    rintro e w5 ⟨⟨u, rfl⟩, g5'⟩
    have g5 : w4.grownBy w5 (some g) := g5'
    clear g5'
    have W5 : Hid (Below w.heap.size w w5) := W3.out.grown g5 W3.out.size (fun k e => by have := Option.some.inj e; have := HG.out.1; omega)
    have P5 : Hid (Pair w5 w1.heap.size w2.heap.size N N' sv sv' L) := by
      refine ⟨HB.out.keep (g5.block N HB.out.ltN (fun e => by have := Option.some.inj e; have := HB.out.bN; have := HG.out.2; omega)) (fun k e => g5.block k (row_kind HB.out.row e).2.1 (fun e2 => by have := Option.some.inj e2; have := (row_kind HB.out.row e).1; have := HG.out.2; omega)), ?_, HT.out.below W5.out HT.out.size⟩
      have h12 := B2.out.size
      exact HQ.out.keep (g5.block N' HQ.out.ltN (fun e => by have := Option.some.inj e; have := HQ.out.bN; have := HG.out.2; omega)) (fun k e => g5.block k (row_kind HQ.out.row e).2.1 (fun e2 => by have := Option.some.inj e2; have := (row_kind HQ.out.row e).1; have := HG.out.2; omega))
    have TL : ∀ wq, Below w5.heap.size w5 wq → (convert 22 9 (.slice pa l.length cap)).run Tryd.prog wq = .ok (.string (textOf l)) wq := fun wq hb' => run_to_text wq pa _ cap l ((HS.out.below W5.out).below hb')
    have hxs := text_self (textOf l)
    clear g5 HB HQ O1 O3 S1 B13 B3 W3 W2 B2
    go_wp2_with fail
    refine onwardB_wp ?_
    have hb0 : Below w5.heap.size w5 w5.drew := (Below.refl _ w5).drew
    refine wp_region_held_drew (S := fun w' => Below w5.heap.size w5 w') (by kernel_rfl) hb0 (fun hHeld => ?_)
    refine take_run (i := 0) (oi := { dst := some 41, op := Go.Op.move (Go.Operand.tmp 4), type := 24, pos := "law.go:137", after := #[], guard := none }) (v := ?_) rfl (by kernel_rfl) (by kernel_rfl) (by kernel_rfl) (fun _ _ _ h => h) (by rfl) ?_ hHeld ?_
    rotate_left
    · (intro wq hSw; go_simp <;> with_reducible rfl)
    try simp only [Act.put, List.setIfInBounds_toArray, List.set_cons_zero, List.set_cons_succ]
    refine take_run (i := 3) (oi := { dst := some 44, op := Go.Op.move (Go.Operand.tmp 0), type := 22, pos := "law.go:137", after := #[], guard := none }) (v := ?_) rfl (by kernel_rfl) (by kernel_rfl) (by kernel_rfl) (fun _ _ _ h => h) (by rfl) ?_ hHeld ?_
    rotate_left
    · (intro wq hSw; go_simp <;> with_reducible rfl)
    try simp only [Act.put, List.setIfInBounds_toArray, List.set_cons_zero, List.set_cons_succ]
    refine take_text (i := 4) (oi := { dst := some 45, op := Go.Op.convert 22 9 (Go.Operand.tmp 44), type := 9, pos := "law.go:137", after := #[{ on := 3, ground := Go.Ground.data }], guard := none }) rfl (by kernel_rfl) (by kernel_rfl) (by kernel_rfl) 22 9 (.tmp 44) _ _ (fun _ _ _ h => h) (by rfl) rfl rfl TL hHeld ?_
    try simp only [Act.put, List.setIfInBounds_toArray, List.set_cons_zero, List.set_cons_succ]
    refine take_call (i := 1) (oi := { dst := some 42, op := Go.Op.call { callee := Go.Callee.value (Go.Operand.func 10), args := #[Go.Operand.tmp 41], argTypes := #[24] }, type := 22, pos := "law.go:137", after := #[{ on := 0, ground := Go.Ground.data }], guard := none }) rfl (by kernel_rfl) (by rfl) 10 _ (by go_simp <;> with_reducible rfl) ?_
    refine (bytes_any (P5.out.below hHeld).b).mono ?_
    rintro e y1 ⟨xa, xc, rfl, xo, k1⟩
    have h1 : Below w5.heap.size w5 y1 := hHeld.trans (k1.mono hHeld.size)
    obtain ⟨_, _, e1, xs, _, _⟩ := owned_seen xo (bytes_low P5.out.b.fit)
    cases e1
    rw [HL.out] at xs ⊢
    have T1 : ∀ w', Below y1.heap.size y1 w' → (convert 22 9 (.slice xa l.length xc)).run Tryd.prog w' = .ok (.string (textOf l)) w' := fun w' hb' => run_to_text w' xa _ xc l (xs.below hb')
    have P1 : Hid (Pair y1 w1.heap.size w2.heap.size N N' sv sv' L) := P5.out.below h1
    clear xo xs k1 hb0 hHeld
    refine ⟨_, rfl, h1, held_more (S' := fun w' => Below y1.heap.size y1 w') (fun w' h => h1.trans (h.mono h1.size)) _ _ _ _ ?_⟩
    try simp only [Act.put, List.setIfInBounds_toArray, List.set_cons_zero, List.set_cons_succ]
    have hh1 : Below y1.heap.size y1 y1 := Below.refl _ _
    refine take_text (i := 2) (oi := { dst := some 43, op := Go.Op.convert 22 9 (Go.Operand.tmp 42), type := 9, pos := "law.go:137", after := #[{ on := 1, ground := Go.Ground.data }], guard := none }) rfl (by kernel_rfl) (by kernel_rfl) (by kernel_rfl) 22 9 (.tmp 42) _ _ (fun _ _ _ h => h) (by rfl) rfl rfl T1 hh1 ?_
    try simp only [Act.put, List.setIfInBounds_toArray, List.set_cons_zero, List.set_cons_succ]
    refine take_run (i := 5) (oi := { dst := some 46, op := Go.Op.binOp Go.BinOp.eql 9 (Go.Operand.tmp 43) (Go.Operand.tmp 45) 9, type := 4, pos := "law.go:137", after := #[{ on := 2, ground := Go.Ground.data }, { on := 4, ground := Go.Ground.data }], guard := none }) (v := ?_) rfl (by kernel_rfl) (by kernel_rfl) (by kernel_rfl) (fun _ _ _ h => h) (by rfl) ?_ hh1 ?_
    rotate_left
    · (intro wq hSw; go_simp <;> with_reducible rfl)
    try simp only [Act.put, List.setIfInBounds_toArray, List.set_cons_zero, List.set_cons_succ]
    refine take_run (i := 6) (oi := { dst := some 47, op := Go.Op.move (Go.Operand.tmp 46), type := 4, pos := "law.go:137", after := #[{ on := 5, ground := Go.Ground.data }, { on := 1, ground := Go.Ground.chain }], guard := none }) (v := ?_) rfl (by kernel_rfl) (by kernel_rfl) (by kernel_rfl) (fun _ _ _ h => h) (by rfl) ?_ hh1 ?_
    rotate_left
    · (intro wq hSw; go_simp <;> with_reducible rfl)
    try simp only [Act.put, List.setIfInBounds_toArray, List.set_cons_zero, List.set_cons_succ]
    refine take_run (i := 7) (oi := { dst := some 48, op := Go.Op.move (Go.Operand.tmp 4), type := 24, pos := "law.go:137", after := #[{ on := 6, ground := Go.Ground.guard }], guard := some (6, true) }) (v := ?_) rfl (by kernel_rfl) (by kernel_rfl) (by kernel_rfl) (fun _ _ _ h => h) (by rfl) ?_ hh1 ?_
    rotate_left
    · (intro wq hSw; go_simp <;> with_reducible rfl)
    try simp only [Act.put, List.setIfInBounds_toArray, List.set_cons_zero, List.set_cons_succ]
    refine take_run (i := 8) (oi := { dst := some 49, op := Go.Op.move (Go.Operand.tmp 6), type := 28, pos := "law.go:137", after := #[{ on := 6, ground := Go.Ground.guard }], guard := some (6, true) }) (v := ?_) rfl (by kernel_rfl) (by kernel_rfl) (by kernel_rfl) (fun _ _ _ h => h) (by rfl) ?_ hh1 ?_
    rotate_left
    · (intro wq hSw; go_simp <;> with_reducible rfl)
    try simp only [Act.put, List.setIfInBounds_toArray, List.set_cons_zero, List.set_cons_succ]
    refine take_run (i := 9) (oi := { dst := some 50, op := Go.Op.build 37 #[], type := 37, pos := "law.go:137", after := #[{ on := 6, ground := Go.Ground.guard }], guard := some (6, true) }) (v := ?_) rfl (by kernel_rfl) (by kernel_rfl) (by kernel_rfl) (fun _ _ _ h => h) (by rfl) ?_ hh1 ?_
    rotate_left
    · (intro wq hSw; go_simp <;> with_reducible rfl)
    try simp only [Act.put, List.setIfInBounds_toArray, List.set_cons_zero, List.set_cons_succ]
    refine take_call (i := 10) (oi := { dst := some 51, op := Go.Op.call { callee := Go.Callee.value (Go.Operand.func 11), args := #[Go.Operand.tmp 48, Go.Operand.tmp 49, Go.Operand.tmp 50], argTypes := #[24, 28, 37] }, type := 4, pos := "law.go:137", after := #[{ on := 7, ground := Go.Ground.data }, { on := 8, ground := Go.Ground.data }, { on := 9, ground := Go.Ground.data }, { on := 6, ground := Go.Ground.chain }, { on := 6, ground := Go.Ground.guard }], guard := some (6, true) }) rfl (by kernel_rfl) (by rfl) 11 _ (by go_simp <;> with_reducible rfl) ?_
    refine (alike_any (P1.out.below hh1) 0 0 0 ⟨#[]⟩ ⟨#[]⟩).mono ?_
    rintro e y2 ⟨rfl, k2⟩
    have hh2 : Below y1.heap.size y1 y2 := k2
    clear k2
    refine ⟨_, rfl, hh2, ?_⟩
    try simp only [Act.put, List.setIfInBounds_toArray, List.set_cons_zero, List.set_cons_succ]
    refine take_run (i := 11) (oi := { dst := some 52, op := Go.Op.pick (Go.Operand.tmp 47) (Go.Operand.tmp 51) (Go.Operand.const (Go.Value.bool false)), type := 4, pos := "law.go:137", after := #[{ on := 6, ground := Go.Ground.data }, { on := 10, ground := Go.Ground.data }], guard := none }) (v := ?_) rfl (by kernel_rfl) (by kernel_rfl) (by kernel_rfl) (fun _ _ _ h => h) (by rfl) ?_ hh2 ?_
    rotate_left
    · (intro wq hSw; go_simp <;> with_reducible rfl)
    try simp only [Act.put, List.setIfInBounds_toArray, List.set_cons_zero, List.set_cons_succ]
    refine take_run (i := 12) (oi := { dst := some 53, op := Go.Op.move (Go.Operand.tmp 52), type := 4, pos := "law.go:137", after := #[{ on := 11, ground := Go.Ground.data }, { on := 10, ground := Go.Ground.chain }], guard := none }) (v := ?_) rfl (by kernel_rfl) (by kernel_rfl) (by kernel_rfl) (fun _ _ _ h => h) (by rfl) ?_ hh2 ?_
    rotate_left
    · (intro wq hSw; go_simp <;> with_reducible rfl)
    try simp only [Act.put, List.setIfInBounds_toArray, List.set_cons_zero, List.set_cons_succ]
    refine take_call (i := 13) (oi := { dst := some 54, op := Go.Op.call { callee := Go.Callee.value (Go.Operand.func 9), args := #[], argTypes := #[] }, type := 4, pos := "law.go:137", after := #[{ on := 12, ground := Go.Ground.chain }, { on := 12, ground := Go.Ground.guard }], guard := some (12, true) }) rfl (by kernel_rfl) (by rfl) 9 _ (by go_simp <;> with_reducible rfl) ?_
    refine (knownB_any y2).mono ?_
    rintro e y3 ⟨rfl, k3⟩
    have hh3 : Below y1.heap.size y1 y3 := hh2.trans (k3.mono hh2.size)
    clear k3
    refine ⟨_, rfl, hh3, ?_⟩
    try simp only [Act.put, List.setIfInBounds_toArray, List.set_cons_zero, List.set_cons_succ]
    refine take_run (i := 14) (oi := { dst := some 55, op := Go.Op.pick (Go.Operand.tmp 53) (Go.Operand.tmp 54) (Go.Operand.const (Go.Value.bool false)), type := 4, pos := "law.go:137", after := #[{ on := 12, ground := Go.Ground.data }, { on := 13, ground := Go.Ground.data }], guard := none }) (v := ?_) rfl (by kernel_rfl) (by kernel_rfl) (by kernel_rfl) (fun _ _ _ h => h) (by rfl) ?_ hh3 ?_
    rotate_left
    · (intro wq hSw; go_simp <;> with_reducible rfl)
    try simp only [Act.put, List.setIfInBounds_toArray, List.set_cons_zero, List.set_cons_succ]
    refine take_run (i := 15) (oi := { dst := some 2, op := Go.Op.assign (Go.Operand.tmp 55), type := 4, pos := "law.go:137", after := #[{ on := 14, ground := Go.Ground.data }, { on := 13, ground := Go.Ground.chain }, { on := 0, ground := Go.Ground.phase }, { on := 1, ground := Go.Ground.phase }, { on := 2, ground := Go.Ground.phase }, { on := 3, ground := Go.Ground.phase }, { on := 4, ground := Go.Ground.phase }, { on := 5, ground := Go.Ground.phase }, { on := 6, ground := Go.Ground.phase }, { on := 7, ground := Go.Ground.phase }, { on := 8, ground := Go.Ground.phase }, { on := 9, ground := Go.Ground.phase }, { on := 10, ground := Go.Ground.phase }, { on := 11, ground := Go.Ground.phase }, { on := 12, ground := Go.Ground.phase }, { on := 13, ground := Go.Ground.phase }, { on := 14, ground := Go.Ground.phase }], guard := none }) (v := ?_) rfl (by kernel_rfl) (by kernel_rfl) (by kernel_rfl) (fun _ _ _ h => h) (by rfl) ?_ hh3 ?_
    rotate_left
    · (intro wq hSw; go_simp <;> with_reducible rfl)
    try simp only [Act.put, List.setIfInBounds_toArray, List.set_cons_zero, List.set_cons_succ]
    refine wpAnyH_done (by kernel_rfl) ?_ _
    show onwardB _ .normal _ _
    unfold onwardB
    have W9 : Hid (Below w.heap.size w y3) := (W5.out.trans (h1.mono W5.out.size)).trans (hh3.mono (Nat.le_trans W5.out.size h1.size))
    clear h1 hh1 hh2 hh3 T1 TL hxs
    go_wp2
    go_ret
    exact ⟨rfl, W9.out⟩
end Go.Proofs.YtdchnfggmkokhaaDoor
