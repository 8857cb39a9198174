/- ClientApart. -/
import Derived.Test.YtaakdnbaljoehaaKGiven
import Derived.Test.YtaakdnbaljoehaaKKnown
import Derived.Test.YtaakdnbaljoehaaKInj
import Derived.Test.YtaakdnbaljoehaaKSame
import Derived.Test.YtaakdnbaljoehaaKJust
namespace Go.Proofs.Ytaakdnbaljoehaa
open Go.RowKit Cod
attribute [local go_sem] Oper.semAt_some
set_option linter.unusedVariables false

/-- A letter that came in: what can be of it. -/
structure LetIn (w : World) (d : LetD) (ra : Option Addr) (rc : Nat) (ba : Option Addr) (bc : Nat) : Prop where
  ok : d.ok
  at_ : LetAt w d ra rc ba bc
  nil : ra = none → rc = 0
  rows : d.rows.length * 24 ≤ 140737488355328
  body : d.body.length ≤ 140737488355328
theorem text_apart {d d' : LetD} (ho : d.ok) (ho' : d'.ok) (h : d.pack.2 = 0) (h' : d'.pack.2 = 0) : ((textOf d.pack.1).toList == (textOf d'.pack.1).toList) = decide (d.just = d'.just) := by
  obtain ⟨h1, h5, hf, hb, _⟩ := pack_zero h
  obtain ⟨h1', h5', hf', hb', _⟩ := pack_zero h'
  rw [hb, hb']
  by_cases e : d.just = d'.just
  · rw [decide_eq_true e, ← just_bytes h1 h5, e, just_bytes h1' h5']
    exact text_self _
  · rw [decide_eq_false e]
    exact text_ne fun x => e (bytes_inj ho ho' h1 h5 h1' h5' hf hf' (textOf_inj x))
/-- given, then Pack. -/
theorem given_at {w : World} {d : LetD} {ra : Option Addr} {rc : Nat} {ba : Option Addr} {bc : Nat} (h : LetIn w d ra rc ba bc) {W : World} (hW : Below w.heap.size w W) : Calls Try.prog 16 #[.agg (d.v ra rc ba bc).cells] W fun e w' => ∃ ra' rc' ba' bc', e = .returned (.agg (d.v ra' rc' ba' bc').cells) ∧ LetAt w' d ra' rc' ba' bc' ∧ Below W.heap.size W w' := by
  refine (given_any d ra rc ba bc W (h.at_.below hW) h.nil h.rows h.body).mono ?_
  rintro e w' ⟨ra', rc', ba', bc', rfl, o, b⟩
  have hr := h.rows
  have hb := h.body
  exact ⟨ra', rc', ba', bc', rfl, o.at_ (by omega) (by unfold maxLen; omega), b⟩
set_option maxRecDepth 100000 in
set_option maxHeartbeats 8000000 in
theorem clientApart_any {w : World} {d d' : LetD} {ra : Option Addr} {rc : Nat} {ba : Option Addr} {bc : Nat} {ra' : Option Addr} {rc' : Nat} {ba' : Option Addr} {bc' : Nat} (h : LetIn w d ra rc ba bc) (h' : LetIn w d' ra' rc' ba' bc') :
    Calls Try.prog 4 #[.agg (d.v ra rc ba bc).cells, .agg (d'.v ra' rc' ba' bc').cells] w fun e w' => e = .returned (.bool true) ∧ Below w.heap.size w w' := by
  obtain ⟨C, eC, lC, _, _⟩ := v_cells (d.v ra rc ba bc)
  obtain ⟨D, eD, lD, _, _⟩ := v_cells (d'.v ra' rc' ba' bc')
  have EC : Hid (_ = C.toArray) := eC
  have ED : Hid (_ = D.toArray) := eD
  have ZC : Hid ((Try.prog.info? 43).map (·.size) = some C.toArray.size) := by
    have e : (Try.prog.info? 43).map (·.size) = some 14 := by kernel_rfl
    show _ = _
    rw [e, List.size_toArray, lC]
  have ZD : Hid ((Try.prog.info? 43).map (·.size) = some D.toArray.size) := by
    have e : (Try.prog.info? 43).map (·.size) = some 14 := by kernel_rfl
    show _ = _
    rw [e, List.size_toArray, lD]
  rw [eC, eD]
  generalize hw2 : (w.alloc (.cells C.toArray 43)).alloc (.cells D.toArray 43) = w2
  have b2 : Below w.heap.size w w2 := by rw [← hw2]; exact below_two w _ _
  have g1 : w2.heap[w.heap.size]? = some (.cells C.toArray 43 (0, 0)) := by
    rw [← hw2]
    exact ((((Below.refl _ (w.alloc (.cells C.toArray 43))).alloc (Nat.le_refl _) _).block w.heap.size (by simp)).trans (heap_alloc_new w _))
  have g2 : w2.heap[w.heap.size + 1]? = some (.cells D.toArray 43 (0, 0)) := by rw [← hw2]; exact heapTwo w _ _
  have G1 : Hid (∀ W, Below w2.heap.size w2 W → W.heap[w.heap.size]? = some (.cells C.toArray 43 (0, 0))) := fun W hW => (hW.block _ (Array.getElem?_eq_some_iff.1 g1).1).trans g1
  have G2 : Hid (∀ W, Below w2.heap.size w2 W → W.heap[w.heap.size + 1]? = some (.cells D.toArray 43 (0, 0))) := fun W hW => (hW.block _ (Array.getElem?_eq_some_iff.1 g2).1).trans g2
  have HI : Hid (LetIn w d ra rc ba bc) := h
  have HI' : Hid (LetIn w d' ra' rc' ba' bc') := h'
  have B2 : Hid (Below w.heap.size w w2) := b2
  have HW : Hid (_ = w2) := hw2
  have C1 := given_at h b2
  rw [eC] at C1
  clear eC lC eD lD hw2 b2 g1 g2 h h'
  go_enter Try.func4, Try.ntmps4
  go_wp2_with (rw [HW.out]; refine wpList_load_row rfl 43 (.tmp 2) rfl w.heap.size rfl 43 C.toArray (0, 0) _ (G1.out _ (Below.refl _ _)) Try.underlying43 rfl ZC.out ?_)
  refine C1.mono ?_
  rintro e w3 ⟨ra3, rc3, ba3, bc3, rfl, l3, b3⟩
  have C2 := pack_any HI.out.ok l3
  have B3 : Hid (Below w2.heap.size w2 w3) := b3
  clear C1 l3 b3 HW
  obtain ⟨C3, e3⟩ : ∃ C3, (d.v ra3 rc3 ba3 bc3).cells = C3 := ⟨_, rfl⟩
  rw [e3] at C2
  rw [e3]
  clear e3
  go_wp2_with fail
  refine C2.mono ?_
  rintro e w4 ⟨v4, rfl, o4, b4⟩
  obtain ⟨a4, c4, rfl, _, _⟩ := row_form' o4
  have O4 : Hid (w4.ownsRow w3.heap.size 5 1 (.slice a4 d.pack.1.length c4) d.pack.1.length (cellsOf d.pack.1)) := o4
  have B4 : Hid (Below w2.heap.size w2 w4) := B3.out.trans (b4.mono B3.out.size)
  have C4 := given_at HI'.out (B2.out.trans (B4.out.mono B2.out.size))
  rw [ED.out] at C4
  clear C2 o4 b4
  go_wp2_with (refine wpList_load_row rfl 43 (.tmp 3) rfl (w.heap.size + 1) rfl 43 D.toArray (0, 0) _ (G2.out _ B4.out) Try.underlying43 rfl ZD.out ?_)
  refine C4.mono ?_
  rintro e w5 ⟨ra5, rc5, ba5, bc5, rfl, l5, b5⟩
  have C5 := pack_any HI'.out.ok l5
  have B5 : Hid (Below w2.heap.size w2 w5) := B4.out.trans (b5.mono B4.out.size)
  have O5 : Hid (w5.ownsRow w3.heap.size 5 1 (.slice a4 d.pack.1.length c4) d.pack.1.length (cellsOf d.pack.1)) := ownsB O4.out b5
  clear C4 l5 b5
  obtain ⟨C6, e6⟩ : ∃ C6, (d'.v ra5 rc5 ba5 bc5).cells = C6 := ⟨_, rfl⟩
  rw [e6] at C5
  rw [e6]
  clear e6
  go_wp2_with fail
  refine C5.mono ?_
  rintro e w6 ⟨v6, rfl, o6, b6⟩
  obtain ⟨a6, c6, rfl, _, _⟩ := row_form' o6
  have O6 : Hid (w6.ownsRow w5.heap.size 5 1 (.slice a6 d'.pack.1.length c6) d'.pack.1.length (cellsOf d'.pack.1)) := o6
  have O7 : Hid (w6.ownsRow w3.heap.size 5 1 (.slice a4 d.pack.1.length c4) d.pack.1.length (cellsOf d.pack.1)) := ownsB O5.out b6
  have B6 : Hid (Below w2.heap.size w2 w6) := B5.out.trans (b6.mono B5.out.size)
  clear C5 o6 b6
  have KN : Hid (∀ W : World, _) := knownK_any
  by_cases z1 : d.pack.2 = 0
  case neg =>
    have z1' : ((d.pack.2 != 0) : Bool) = true := by simpa using z1
    clear z1
    go_wp2_with fail
    refine Calls.mono (KN.out _) ?_
    rintro e w7 ⟨rfl, b7⟩
    have B7 : Hid (Below w.heap.size w w7) := B2.out.trans ((B6.out.trans (b7.mono B6.out.size)).mono B2.out.size)
    clear b7
    go_wp2
    go_ret
    exact ⟨rfl, B7.out⟩
  by_cases z2 : d'.pack.2 = 0
  case neg =>
    have z2' : ((d'.pack.2 != 0) : Bool) = true := by simpa using z2
    have z1' : ((d.pack.2 != 0) : Bool) = false := by simpa using z1
    clear z1 z2
    go_wp2_with fail
    refine Calls.mono (KN.out _) ?_
    rintro e w7 ⟨rfl, b7⟩
    have B7 : Hid (Below w.heap.size w w7) := B2.out.trans ((B6.out.trans (b7.mono B6.out.size)).mono B2.out.size)
    clear b7
    go_wp2
    go_ret
    exact ⟨rfl, B7.out⟩
  have TX := text_apart HI.out.ok HI'.out.ok z1 z2
  obtain ⟨k1, k5, _, _, kl⟩ := pack_zero z1
  obtain ⟨k1', k5', _, _, kl'⟩ := pack_zero z2
  have hl : d.pack.1.length ≤ maxLen := by rw [(pack_zero z1).2.2.2.1]; unfold maxLen; omega
  have hl' : d'.pack.1.length ≤ maxLen := by rw [(pack_zero z2).2.2.2.1]; unfold maxLen; omega
  have z1' : ((d.pack.2 != 0) : Bool) = false := by simpa using z1
  have z2' : ((d'.pack.2 != 0) : Bool) = false := by simpa using z2
  obtain ⟨a, c, ee, s1, _, _⟩ := owned_seen O7.out hl
  injection ee with ea _ ec
  subst ea
  subst ec
  obtain ⟨a, c, ee, s2, _, _⟩ := owned_seen O6.out hl'
  injection ee with ea _ ec
  subst ea
  subst ec
  have CV1 : Hid (∀ W, Below w6.heap.size w6 W → (convert 41 9 (.slice a4 d.pack.1.length c4)).run Try.prog W = .ok (.string (textOf d.pack.1)) W) := fun W hW => run_to_text W a4 _ c4 _ (s1.below hW)
  have CV2 : Hid (∀ W, Below w6.heap.size w6 W → (convert 41 9 (.slice a6 d'.pack.1.length c6)).run Try.prog W = .ok (.string (textOf d'.pack.1)) W) := fun W hW => run_to_text W a6 _ c6 _ (s2.below hW)
  obtain ⟨rj, cj, bj, kj, ej, lj⟩ := just_v k1 k5 HI.out.at_
  obtain ⟨rj', cj', bj', kj', ej', lj'⟩ := just_v k1' k5' HI'.out.at_
  have J1 : Hid (∀ W : World, Calls Try.prog 18 #[.agg C.toArray] W fun e w' => e = .returned (.agg (d.just.v rj cj bj kj).cells) ∧ Below W.heap.size W w') := fun W => by
    have := refJust_any (d.v ra rc ba bc) k1 k5 W
    rw [EC.out, ej] at this
    exact this
  have J2 : Hid (∀ W : World, Calls Try.prog 18 #[.agg D.toArray] W fun e w' => e = .returned (.agg (d'.just.v rj' cj' bj' kj').cells) ∧ Below W.heap.size W w') := fun W => by
    have := refJust_any (d'.v ra' rc' ba' bc') k1' k5' W
    rw [ED.out, ej'] at this
    exact this
  have J3 : Hid (∀ W : World, Below w.heap.size w W → Calls Try.prog 17 #[.agg (d.just.v rj cj bj kj).cells, .agg (d'.just.v rj' cj' bj' kj').cells] W fun e w' => e = .returned (.bool (decide (d.just = d'.just))) ∧ Below W.heap.size W w') := fun W hW => refSame_any (lj.below hW) (lj'.below hW)
  have G1' : Hid (∀ W, Below w6.heap.size w6 W → W.heap[w.heap.size]? = some (.cells C.toArray 43 (0, 0))) := fun W hW => G1.out W (B6.out.trans (hW.mono B6.out.size))
  have G2' : Hid (∀ W, Below w6.heap.size w6 W → W.heap[w.heap.size + 1]? = some (.cells D.toArray 43 (0, 0))) := fun W hW => G2.out W (B6.out.trans (hW.mono B6.out.size))
  have B6' : Hid (Below w.heap.size w w6) := B2.out.trans (B6.out.mono B2.out.size)
  generalize (d.just.v rj cj bj kj).cells = C7 at *
  generalize (d'.just.v rj' cj' bj' kj').cells = C8 at *
  generalize decide (d.just = d'.just) = same at *
  generalize textOf d.pack.1 = T1 at *
  generalize textOf d'.pack.1 = T2 at *
  have HTX : Hid _ := TX
  clear ej ej' lj lj' s1 s2 hl hl' kl kl' k1 k5 k1' k5' z1 z2 TX O4 O5 O6 O7 B3 B4 B5 G1 G2
  go_wp2_with fail
  refine wp_region_held_drew (S := fun W => Below w6.heap.size w6 W) (by kernel_rfl) (Below.refl _ w6).drew (fun hHeld => ?_)
  refine take_run (i := 0) (oi := { dst := some 28, op := Go.Op.move (Go.Operand.tmp 5), type := 41, pos := "law.go:170", after := #[], guard := none }) (v := .slice a4 d.pack.1.length c4) rfl (by kernel_rfl) (by kernel_rfl) (by kernel_rfl) (fun _ _ _ h => h) (by rfl) ?_ hHeld ?_
  · (intro wq hSw; go_simp <;> with_reducible rfl)
  try simp only [Act.put, List.setIfInBounds_toArray, List.set_cons_zero, List.set_cons_succ]
  refine take_text (i := 1) (oi := { dst := some 29, op := Go.Op.convert 41 9 (Go.Operand.tmp 28), type := 9, pos := "law.go:170", after := #[{ on := 0, ground := Go.Ground.data }], guard := none }) rfl (by kernel_rfl) (by kernel_rfl) (by kernel_rfl) 41 9 (.tmp 28) _ (.string T1) (fun _ _ _ h => h) (by rfl) rfl (by go_simp <;> with_reducible rfl) (fun W hW => CV1.out W hW) hHeld ?_
  try simp only [Act.put, List.setIfInBounds_toArray, List.set_cons_zero, List.set_cons_succ]
  refine take_run (i := 2) (oi := { dst := some 30, op := Go.Op.move (Go.Operand.tmp 7), type := 41, pos := "law.go:170", after := #[], guard := none }) (v := .slice a6 d'.pack.1.length c6) rfl (by kernel_rfl) (by kernel_rfl) (by kernel_rfl) (fun _ _ _ h => h) (by rfl) ?_ hHeld ?_
  · (intro wq hSw; go_simp <;> with_reducible rfl)
  try simp only [Act.put, List.setIfInBounds_toArray, List.set_cons_zero, List.set_cons_succ]
  refine take_text (i := 3) (oi := { dst := some 31, op := Go.Op.convert 41 9 (Go.Operand.tmp 30), type := 9, pos := "law.go:170", after := #[{ on := 2, ground := Go.Ground.data }], guard := none }) rfl (by kernel_rfl) (by kernel_rfl) (by kernel_rfl) 41 9 (.tmp 30) _ (.string T2) (fun _ _ _ h => h) (by rfl) rfl (by go_simp <;> with_reducible rfl) (fun W hW => CV2.out W hW) hHeld ?_
  try simp only [Act.put, List.setIfInBounds_toArray, List.set_cons_zero, List.set_cons_succ]
  refine take_run (i := 4) (oi := { dst := some 32, op := Go.Op.binOp Go.BinOp.eql 9 (Go.Operand.tmp 29) (Go.Operand.tmp 31) 9, type := 4, pos := "law.go:170", after := #[{ on := 1, ground := Go.Ground.data }, { on := 3, ground := Go.Ground.data }], guard := none }) (v := .bool same) rfl (by kernel_rfl) (by kernel_rfl) (by kernel_rfl) (fun _ _ _ h => h) (by rfl) ?_ hHeld ?_
  · (intro wq hSw; have ht := HTX.out; go_simp <;> with_reducible rfl)
  try simp only [Act.put, List.setIfInBounds_toArray, List.set_cons_zero, List.set_cons_succ]
  refine take_row (i := 5) (oi := { dst := some 33, op := Go.Op.load 43 (Go.Operand.tmp 2), type := 43, pos := "law.go:170", after := #[], guard := none }) rfl (by kernel_rfl) (by kernel_rfl) (by kernel_rfl) 43 (.tmp 2) w.heap.size 43 C.toArray (0, 0) _ (fun _ _ _ h => h) (by rfl) rfl (by go_simp <;> with_reducible rfl) (fun W hW => G1'.out W hW) Try.underlying43 rfl ZC.out hHeld ?_
  try simp only [Act.put, List.setIfInBounds_toArray, List.set_cons_zero, List.set_cons_succ]
  refine take_row (i := 7) (oi := { dst := some 35, op := Go.Op.load 43 (Go.Operand.tmp 3), type := 43, pos := "law.go:170", after := #[], guard := none }) rfl (by kernel_rfl) (by kernel_rfl) (by kernel_rfl) 43 (.tmp 3) (w.heap.size + 1) 43 D.toArray (0, 0) _ (fun _ _ _ h => h) (by rfl) rfl (by go_simp <;> with_reducible rfl) (fun W hW => G2'.out W hW) Try.underlying43 rfl ZD.out hHeld ?_
  try simp only [Act.put, List.setIfInBounds_toArray, List.set_cons_zero, List.set_cons_succ]
  refine take_call (i := 6) (oi := { dst := some 34, op := Go.Op.call { callee := Go.Callee.value (Go.Operand.func 18), args := #[Go.Operand.tmp 33], argTypes := #[43] }, type := 43, pos := "law.go:170", after := #[{ on := 5, ground := Go.Ground.data }], guard := none }) rfl (by kernel_rfl) (by rfl) 18 _ (by go_simp <;> with_reducible rfl) ?_
  refine Calls.mono (J1.out _) ?_
  rintro e x1 ⟨rfl, y1⟩
  have z1 : Below w6.heap.size w6 x1 := hHeld.trans (y1.mono hHeld.size)
  refine ⟨_, rfl, z1, ?_⟩
  try simp only [Act.put, List.setIfInBounds_toArray, List.set_cons_zero, List.set_cons_succ]
  clear y1
  refine take_call (i := 8) (oi := { dst := some 36, op := Go.Op.call { callee := Go.Callee.value (Go.Operand.func 18), args := #[Go.Operand.tmp 35], argTypes := #[43] }, type := 43, pos := "law.go:170", after := #[{ on := 7, ground := Go.Ground.data }, { on := 6, ground := Go.Ground.chain }], guard := none }) rfl (by kernel_rfl) (by rfl) 18 _ (by go_simp <;> with_reducible rfl) ?_
  refine Calls.mono (J2.out _) ?_
  rintro e x2 ⟨rfl, y2⟩
  have z2 : Below w6.heap.size w6 x2 := z1.trans (y2.mono z1.size)
  refine ⟨_, rfl, z2, ?_⟩
  try simp only [Act.put, List.setIfInBounds_toArray, List.set_cons_zero, List.set_cons_succ]
  clear y2
  refine take_call (i := 9) (oi := { dst := some 37, op := Go.Op.call { callee := Go.Callee.value (Go.Operand.func 17), args := #[Go.Operand.tmp 34, Go.Operand.tmp 36], argTypes := #[43, 43] }, type := 4, pos := "law.go:170", after := #[{ on := 6, ground := Go.Ground.data }, { on := 8, ground := Go.Ground.data }, { on := 8, ground := Go.Ground.chain }], guard := none }) rfl (by kernel_rfl) (by rfl) 17 _ (by go_simp <;> with_reducible rfl) ?_
  refine Calls.mono (J3.out _ (B6'.out.trans (z2.mono B6'.out.size))) ?_
  rintro e x3 ⟨rfl, y3⟩
  have z3 : Below w6.heap.size w6 x3 := z2.trans (y3.mono z2.size)
  refine ⟨_, rfl, z3, ?_⟩
  try simp only [Act.put, List.setIfInBounds_toArray, List.set_cons_zero, List.set_cons_succ]
  clear y3
  refine take_run (i := 10) (oi := { dst := some 38, op := Go.Op.binOp Go.BinOp.eql 4 (Go.Operand.tmp 32) (Go.Operand.tmp 37) 4, type := 4, pos := "law.go:170", after := #[{ on := 4, ground := Go.Ground.data }, { on := 9, ground := Go.Ground.data }], guard := none }) (v := .bool true) rfl (by kernel_rfl) (by kernel_rfl) (by kernel_rfl) (fun _ _ _ h => h) (by rfl) ?_ z3 ?_
  · (intro wq hSw; go_simp <;> with_reducible rfl)
  try simp only [Act.put, List.setIfInBounds_toArray, List.set_cons_zero, List.set_cons_succ]
  refine take_run (i := 11) (oi := { dst := some 39, op := Go.Op.move (Go.Operand.tmp 38), type := 4, pos := "law.go:170", after := #[{ on := 10, ground := Go.Ground.data }, { on := 9, ground := Go.Ground.chain }], guard := none }) (v := .bool true) rfl (by kernel_rfl) (by kernel_rfl) (by kernel_rfl) (fun _ _ _ h => h) (by rfl) ?_ z3 ?_
  · (intro wq hSw; go_simp <;> with_reducible rfl)
  try simp only [Act.put, List.setIfInBounds_toArray, List.set_cons_zero, List.set_cons_succ]
  refine take_call (i := 12) (oi := { dst := some 40, op := Go.Op.call { callee := Go.Callee.value (Go.Operand.func 14), args := #[], argTypes := #[] }, type := 4, pos := "law.go:170", after := #[{ on := 11, ground := Go.Ground.chain }, { on := 11, ground := Go.Ground.guard }], guard := some (11, true) }) rfl (by kernel_rfl) (by rfl) 14 _ (by go_simp <;> with_reducible rfl) ?_
  refine Calls.mono (KN.out _) ?_
  rintro e x4 ⟨rfl, y4⟩
  have z4 : Below w6.heap.size w6 x4 := z3.trans (y4.mono z3.size)
  refine ⟨_, rfl, z4, ?_⟩
  try simp only [Act.put, List.setIfInBounds_toArray, List.set_cons_zero, List.set_cons_succ]
  clear y4
  refine take_run (i := 13) (oi := { dst := some 41, op := Go.Op.pick (Go.Operand.tmp 39) (Go.Operand.tmp 40) (Go.Operand.const (Go.Value.bool false)), type := 4, pos := "law.go:170", after := #[{ on := 11, ground := Go.Ground.data }, { on := 12, ground := Go.Ground.data }], guard := none }) (v := .bool true) rfl (by kernel_rfl) (by kernel_rfl) (by kernel_rfl) (fun _ _ _ h => h) (by rfl) ?_ z4 ?_
  · (intro wq hSw; go_simp <;> with_reducible rfl)
  try simp only [Act.put, List.setIfInBounds_toArray, List.set_cons_zero, List.set_cons_succ]
  refine take_run (i := 14) (oi := { dst := some 4, op := Go.Op.assign (Go.Operand.tmp 41), type := 4, pos := "law.go:170", after := #[{ on := 13, ground := Go.Ground.data }, { on := 12, ground := Go.Ground.chain }, { on := 0, ground := Go.Ground.phase }, { on := 1, ground := Go.Ground.phase }, { on := 2, ground := Go.Ground.phase }, { on := 3, ground := Go.Ground.phase }, { on := 4, ground := Go.Ground.phase }, { on := 5, ground := Go.Ground.phase }, { on := 6, ground := Go.Ground.phase }, { on := 7, ground := Go.Ground.phase }, { on := 8, ground := Go.Ground.phase }, { on := 9, ground := Go.Ground.phase }, { on := 10, ground := Go.Ground.phase }, { on := 11, ground := Go.Ground.phase }, { on := 12, ground := Go.Ground.phase }, { on := 13, ground := Go.Ground.phase }], guard := none }) (v := .bool true) rfl (by kernel_rfl) (by kernel_rfl) (by kernel_rfl) (fun _ _ _ h => h) (by rfl) ?_ z4 ?_
  · (intro wq hSw; go_simp <;> with_reducible rfl)
  try simp only [Act.put, List.setIfInBounds_toArray, List.set_cons_zero, List.set_cons_succ]
  refine wpAnyH_done (by kernel_rfl) ?_ _
  have B9 : Hid (Below w.heap.size w x4) := B6'.out.trans (z4.mono B6'.out.size)
  clear z1 z2 z3 z4 hHeld
  go_wp2
  go_ret
  exact ⟨rfl, B9.out⟩
end Go.Proofs.Ytaakdnbaljoehaa
