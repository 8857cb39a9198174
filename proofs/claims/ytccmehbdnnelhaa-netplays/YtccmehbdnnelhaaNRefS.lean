/- (with where the bytes lie) The reference of package net: Send. -/
import Derived.Test.YtccmehbdnnelhaaNGa
import Derived.Test.YtccmehbdnnelhaaNOwn
namespace Go.Proofs.Ytccmehbdnnelhaa
open Go.RowKit Go.Maps
attribute [local go_sem] Oper.semAt_some
set_option linter.unusedVariables false
set_option maxRecDepth 100000 in
theorem rend_any (x : Int) (w : World) : Calls Try.prog 30 #[.int .i64 x] w fun e w' => e = .returned (.bool (who x)) ∧ w' = w := by
  unfold who
  by_cases h1 : -1 ≤ x
  · by_cases h2 : x < 5
    · rw [decide_eq_true h1, decide_eq_true h2]
      go_enter Try.func30, Try.ntmps30
      go_wp2
      go_ret
      exact ⟨rfl, rfl⟩
    · rw [decide_eq_true h1, decide_eq_false h2]
      go_enter Try.func30, Try.ntmps30
      go_wp2
      go_ret
      exact ⟨rfl, rfl⟩
  · rw [decide_eq_false h1]
    go_enter Try.func30, Try.ntmps30
    go_wp2
    go_ret
    exact ⟨rfl, rfl⟩
/-- What the reference's Send answers. -/
def RSendTold (base R : Nat) (ms : List OpN) (fr to : Int) (b : List (BitVec 8)) (w w' : World) (e : Ending) : Prop :=
  ((who fr && who to) = false ∧ e = .returned (.int .i64 1) ∧ Below w.heap.size w w') ∨ ((who fr && who to) = true ∧ 1048576 < b.length ∧ e = .returned (.int .i64 3) ∧ Below w.heap.size w w') ∨
  ((who fr && who to) = true ∧ b.length ≤ 1048576 ∧ 10000 ≤ ms.length ∧ e = .returned (.int .i64 4) ∧ Below w.heap.size w w') ∨
  ((who fr && who to) = true ∧ b.length ≤ 1048576 ∧ ms.length < 10000 ∧ e = .returned (.int .i64 0) ∧ ∃ v' a c, RefIn w' base R v' (ms ++ [⟨0, fr, to, a, c, b⟩]) ∧ RKeep base w w' ∧ OwnAt w.heap.size w' (.slice a b.length c) b)
theorem below_drewS (w : World) : Below w.heap.size w w.drew := (Below.refl _ w).drew
/-- A letter that is made: its bytes are copied, and it is given them. -/
theorem letter_made (fr to : Int) (a : Option Addr) (cap : Nat) (b : List (BitVec 8)) (w : World) (hS : Seen w a b.length b) (hnil : a = none → cap = 0) (hb : b.length ≤ 1048576) :
    ∃ va vc w3, (Builtin.append_ #[30, 30] 30 #[.slice none 0 0, .slice a b.length cap]).run Try.prog (w.alloc (.cells #[.int .i64 fr, .int .i64 to, .slice none 0 0] 48)) = .ok (.slice va b.length vc) w3 ∧
      w3.cell? ⟨w.heap.size, 2, none⟩ = some (.slice none 0 0) ∧ w3.frozen? ⟨w.heap.size, 2, none⟩ = false ∧
      (w3.setCell ⟨w.heap.size, 2, none⟩ (.slice va b.length vc)).heap[w.heap.size]? = some (.cells #[.int .i64 fr, .int .i64 to, .slice va b.length vc] 48 (0, 0)) ∧
      OwnAt w.heap.size (w3.setCell ⟨w.heap.size, 2, none⟩ (.slice va b.length vc)) (.slice va b.length vc) b ∧ Below w.heap.size w (w3.setCell ⟨w.heap.size, 2, none⟩ (.slice va b.length vc)) := by
  have ba := (Below.refl w.heap.size w).alloc (Nat.le_refl _) (.cells #[.int .i64 fr, .int .i64 to, .slice none 0 0] 48)
  have hn := heap_alloc_new w (.cells #[.int .i64 fr, .int .i64 to, .slice none 0 0] 48)
  obtain ⟨w2, e2⟩ : ∃ w2, w.alloc (.cells #[.int .i64 fr, .int .i64 to, .slice none 0 0] 48) = w2 := ⟨_, rfl⟩
  rw [e2] at ba hn
  rw [e2]
  obtain ⟨v1, w3, hr, o1, g1⟩ := run_append_bytes 30 w2 w2.heap.size (.slice none 0 0) 0 [] (World.ownsRow_nil _ _ _ _) a b.length cap b (hS.below ba) hnil (by omega) (Nat.le_refl _)
  rw [List.nil_append, Nat.zero_add] at o1
  have b3 : Below w2.heap.size w2 w3 := (Below.refl _ w2).grown g1 (Nat.le_refl _) (fun k e => by cases e)
  have d3 : OwnAt w2.heap.size w3 v1 b := o1
  obtain ⟨va, vc, ev⟩ := d3.form
  subst ev
  have h3 := (b3.block _ (Array.getElem?_eq_some_iff.1 hn).1).trans hn
  have h4 := heap_setCell_same w3 w.heap.size 2 _ _ (.slice va b.length vc) h3
  refine ⟨va, vc, w3, hr, by unfold World.cell?; simp only [h3]; rfl, by simp [World.frozen?, h3], by simpa using h4, ?_, (ba.trans (b3.mono ba.size)).setCell (Nat.le_refl _) _⟩
  refine (d3.keep fun g hg hl h8 => heap_setCell_other _ _ _ _ (fun eq => ?_)).mono ba.size
  obtain ⟨cs, z, e⟩ := h8
  rw [show g = w.heap.size from eq, h3] at e
  injection e with e
  injection e with _ e _
  exact tR5 e
set_option maxRecDepth 100000 in
set_option maxHeartbeats 2000000 in
theorem rsend_any {w : World} {base R : Nat} {v : Value} {ms : List OpN} (h : RefIn w base R v ms) (fr to : Int) (ba : Option Addr) (cap : Nat) (b : List (BitVec 8)) (hS : Seen w ba b.length b) (hnil : ba = none → cap = 0) : Calls Try.prog 11 #[.pointer (some ⟨R, 0, none⟩), .int .i64 fr, .int .i64 to, .slice ba b.length cap] w fun e w' => RSendTold base R ms fr to b w w' e := by
  have HK1 := rend_any fr w
  have HK2 := rend_any to w
  have H : Hid (RefIn w base R v ms) := h
  have HSn : Hid (Seen w ba b.length b ∧ (ba = none → cap = 0)) := ⟨hS, hnil⟩
  have hbs : base ≤ w.heap.size := Nat.le_of_lt (Nat.lt_of_le_of_lt h.bR h.lt)
  obtain ⟨a, c, ev⟩ := h.form
  clear h hS hnil
  cases hf : who fr
  · rw [hf] at HK1
    have HW : Hid ((who fr && who to) = false) := by show _ = _; rw [hf]; rfl
    clear hf HK2 ev hbs
    go_enter Try.func11, Try.ntmps11
    go_wp2_with fail
    refine HK1.mono ?_
    rintro e w1 ⟨rfl, hw⟩
    subst w1
    go_wp2
    go_ret
    exact .inl ⟨HW.out, rfl, Below.refl _ _⟩
  · cases ht : who to
    · rw [hf] at HK1
      rw [ht] at HK2
      have HW : Hid ((who fr && who to) = false) := by show _ = _; rw [hf, ht]; rfl
      clear hf ht ev hbs
      go_enter Try.func11, Try.ntmps11
      go_wp2_with fail
      refine HK1.mono ?_
      rintro e w1 ⟨rfl, hw⟩
      subst w1
      go_wp2_with fail
      refine HK2.mono ?_
      rintro e w1 ⟨rfl, hw⟩
      subst w1
      clear HK1 HK2
      go_wp2
      go_ret
      exact .inl ⟨HW.out, rfl, Below.refl _ _⟩
    · rw [hf] at HK1
      rw [ht] at HK2
      have HW : Hid ((who fr && who to) = true) := by show _ = _; rw [hf, ht]; rfl
      clear hf ht
      by_cases hb : b.length ≤ 1048576
      · have g1 : ¬ ((1048576 : Int) < (b.length : Int)) := by omega
        have q := H.out.c0
        rw [ev] at q
        by_cases hl : 10000 ≤ ms.length
        · have HB : Hid (b.length ≤ 1048576 ∧ 10000 ≤ ms.length) := ⟨hb, hl⟩
          obtain ⟨m, em⟩ : ∃ m, ms.length = m := ⟨_, rfl⟩
          rw [em] at q hl
          have h1 : (10000 : Int) ≤ (m : Int) := by omega
          clear hb hl em ev hbs
          go_enter Try.func11, Try.ntmps11
          go_wp2_with fail
          refine HK1.mono ?_
          rintro e w1 ⟨rfl, hw⟩
          subst w1
          go_wp2_with fail
          refine HK2.mono ?_
          rintro e w1 ⟨rfl, hw⟩
          subst w1
          clear HK1 HK2
          go_wp2
          go_ret
          exact .inr (.inr (.inl ⟨HW.out, HB.out.1, HB.out.2, rfl, Below.refl _ _⟩))
        have HB : Hid (b.length ≤ 1048576 ∧ ms.length < 10000) := ⟨hb, by omega⟩
        obtain ⟨va, vc, w3, hr3, l3, z3, n4, d4, b4⟩ := letter_made fr to ba cap b w HSn.out.1 HSn.out.2 hb
        obtain ⟨P, eP⟩ : ∃ P, w.heap.size = P := ⟨_, rfl⟩
        have d4' := d4
        rw [eP] at l3 z3 n4 d4' d4 b4
        rw [← eP] at b4
        have b4' : Below w.heap.size w (w3.setCell ⟨P, 2, none⟩ (.slice va b.length vc)) := by rw [← eP]; exact b4
        obtain ⟨w4, e4⟩ : ∃ w4, w3.setCell ⟨P, 2, none⟩ (.slice va b.length vc) = w4 := ⟨_, rfl⟩
        rw [e4] at n4 d4 d4' b4'
        have h4 := H.out.below b4'
        have q4 := h4.c0
        rw [ev] at q4
        have hd := h4.below (below_drewS w4)
        obtain ⟨g, gc, w', hap, fz, cl, r', k'⟩ := hd.grow ⟨0, fr, to, va, vc, b⟩ (by omega) ((d4.data (by have := HB.out; omega)).below (below_drewS w4))
        have bb : base ≤ w4.heap.size := Nat.le_trans hbs b4'.size
        have FIN : Hid (∃ v' a c, RefIn (w'.setCell ⟨R, 0, none⟩ (.slice (some ⟨g, 0, none⟩) (ms.length + 1) gc)) base R v' (ms ++ [⟨0, fr, to, a, c, b⟩]) ∧ RKeep base w (w'.setCell ⟨R, 0, none⟩ (.slice (some ⟨g, 0, none⟩) (ms.length + 1) gc)) ∧ OwnAt w.heap.size (w'.setCell ⟨R, 0, none⟩ (.slice (some ⟨g, 0, none⟩) (ms.length + 1) gc)) (.slice a b.length c) b) := ⟨_, va, vc, r', ((RKeep.of_below b4' hbs).trans (RKeep.of_below (below_drewS w4) bb)).trans k', (by rw [eP]; exact (d4'.below (below_drewS w4)).rk k')⟩
        obtain ⟨m, em⟩ : ∃ m, ms.length = m := ⟨_, rfl⟩
        rw [ev] at hap cl
        rw [em] at q q4 hl hap FIN cl
        have h1 : ¬ ((10000 : Int) ≤ (m : Int)) := by omega
        simp only at hap
        have HAP : Hid _ := hap
        have CR : Hid (w4.drew.cell? ⟨R, 0, none⟩ = some (.slice a m c)) := by show _ = _; rw [← q4]; rfl
        have CP : Hid (w4.drew.cell? ⟨P, 0, none⟩ = some (.int .i64 fr) ∧ w4.drew.cell? ⟨P, 1, none⟩ = some (.int .i64 to) ∧ w4.drew.cell? ⟨P, 2, none⟩ = some (.slice va b.length vc)) := by
          have n3 : w4.drew.heap[P]? = _ := n4
          refine ⟨?_, ?_, ?_⟩ <;> (unfold World.cell?; simp only [n3]; rfl)
        have HC : Hid (w'.cell? ⟨R, 0, none⟩ = some (.slice a m c) ∧ w'.frozen? ⟨R, 0, none⟩ = false) := ⟨cl, fz⟩
        have CRA : Hid ((w4.alloc (.cells #[.int .i64 fr, .int .i64 to, .slice va b.length vc] 48)).cell? ⟨R, 0, none⟩ = some (.slice a m c)) := by
          show _ = _
          rw [((Below.refl _ w4).alloc (Nat.le_refl _) _).cell (p := ⟨R, 0, none⟩) (World.block_lt_of_cell? w4 _ q4)]
          exact q4
        have HR3 : Hid _ := hr3
        clear hb hl hr3 n4 d4 d4' b4 b4' h4 hd hap fz cl r' k' bb em ev hbs
        go_enter Try.func11, Try.ntmps11
        go_wp2_with fail
        refine HK1.mono ?_
        rintro e w1 ⟨rfl, hw⟩
        subst w1
        go_wp2_with fail
        refine HK2.mono ?_
        rintro e w1 ⟨rfl, hw⟩
        subst w1
        clear HK1 HK2
        go_wp2_with (first | (rw [eP]) | (rw [e4]) | (at_builtin; refine wpList_append_known rfl (.tmp 34) (.tmp 35) 30 30 rfl _ _ rfl rfl _ _ HR3.out ?_))
        try rw [e4]
        refine wp_region_held_drew (S := fun _ => True) (by kernel_rfl) trivial (fun hHeld => ?_)
        refine take_run (i := 0) (oi := { dst := some 38, op := Go.Op.move (Go.Operand.tmp 0), type := 25, pos := "ref.go:33", after := #[], guard := none }) (v := .pointer (some ⟨R, 0, none⟩)) rfl (by kernel_rfl) (by kernel_rfl) (by kernel_rfl) (fun _ _ _ h => h) (by rfl) ?_ hHeld ?_
        · (intro wq hSw; go_simp <;> with_reducible rfl)
        try simp only [Act.put, List.setIfInBounds_toArray, List.set_cons_zero, List.set_cons_succ]
        refine take_run (i := 1) (oi := { dst := some 39, op := Go.Op.move (Go.Operand.tmp 0), type := 25, pos := "ref.go:33", after := #[], guard := none }) (v := .pointer (some ⟨R, 0, none⟩)) rfl (by kernel_rfl) (by kernel_rfl) (by kernel_rfl) (fun _ _ _ h => h) (by rfl) ?_ hHeld ?_
        · (intro wq hSw; go_simp <;> with_reducible rfl)
        try simp only [Act.put, List.setIfInBounds_toArray, List.set_cons_zero, List.set_cons_succ]
        refine take_run (i := 2) (oi := { dst := some 40, op := Go.Op.nilCheck (Go.Operand.tmp 39), type := 0, pos := "ref.go:33", after := #[{ on := 1, ground := Go.Ground.data }], guard := none }) (v := .pointer (some ⟨R, 0, none⟩)) rfl (by kernel_rfl) (by kernel_rfl) (by kernel_rfl) (fun _ _ _ h => h) (by rfl) ?_ hHeld ?_
        · (intro wq hSw; go_simp <;> with_reducible rfl)
        try simp only [Act.put, List.setIfInBounds_toArray, List.set_cons_zero, List.set_cons_succ]
        refine take_run (i := 3) (oi := { dst := some 41, op := Go.Op.fieldAddr 28 (Go.Operand.tmp 40) 0, type := 0, pos := "ref.go:33", after := #[{ on := 2, ground := Go.Ground.data }], guard := none }) (v := .pointer (some ⟨R, 0, none⟩)) rfl (by kernel_rfl) (by kernel_rfl) (by kernel_rfl) (fun _ _ _ h => h) (by rfl) ?_ hHeld ?_
        · (intro wq hSw; go_simp <;> with_reducible rfl)
        try simp only [Act.put, List.setIfInBounds_toArray, List.set_cons_zero, List.set_cons_succ]
        refine take_two (i := 4) (j := 5) (oi := { dst := some 42, op := Go.Op.load 26 (Go.Operand.tmp 41), type := 26, pos := "ref.go:33", after := #[{ on := 3, ground := Go.Ground.data }], guard := none }) (oj := { dst := some 43, op := Go.Op.load 48 (Go.Operand.tmp 9), type := 48, pos := "ref.go:33", after := #[], guard := none }) (.slice a m c) (.agg #[.int .i64 fr, .int .i64 to, .slice va b.length vc]) rfl rfl (by kernel_rfl) (by rfl) (by rfl) (by have cc := CR.out; go_simp <;> with_reducible rfl) trivial (by have c0 := CP.out.1; have c1 := CP.out.2.1; have c2 := CP.out.2.2; go_simp <;> with_reducible rfl) trivial ?_ ?_
        · try simp only [Act.put, List.setIfInBounds_toArray, List.set_cons_zero, List.set_cons_succ]
          refine take_val (i := 5) (oi := { dst := some 43, op := Go.Op.load 48 (Go.Operand.tmp 9), type := 48, pos := "ref.go:33", after := #[], guard := none }) (.agg #[.int .i64 fr, .int .i64 to, .slice va b.length vc]) rfl (by kernel_rfl) (by rfl) (by have c0 := CP.out.1; have c1 := CP.out.2.1; have c2 := CP.out.2.2; go_simp <;> with_reducible rfl) trivial ?_
          try simp only [Act.put, List.setIfInBounds_toArray, List.set_cons_zero, List.set_cons_succ]
          refine take_val (i := 6) (oi := { dst := some 44, op := Go.Op.buildSlice 26 1 #[(0, Go.Operand.tmp 43)], type := 26, pos := "ref.go:33", after := #[{ on := 5, ground := Go.Ground.data }], guard := none }) (.slice (some ⟨w4.heap.size, 0, none⟩) 1 1) rfl (by kernel_rfl) (by rfl) (by go_simp <;> with_reducible rfl) trivial ?_
          try simp only [Act.put, List.setIfInBounds_toArray, List.set_cons_zero, List.set_cons_succ]
          refine take_val (i := 7) (oi := { dst := some 45, op := Go.Op.call { callee := Go.Callee.builtin Go.Builtin.append, args := #[Go.Operand.tmp 42, Go.Operand.tmp 44], argTypes := #[26, 26] }, type := 26, pos := "ref.go:33", after := #[{ on := 4, ground := Go.Ground.data }, { on := 6, ground := Go.Ground.data }], guard := none }) (.slice (some ⟨g, 0, none⟩) (m + 1) gc) rfl (by kernel_rfl) (by rfl) (exec_appN (.tmp 42) (.tmp 44) 26 rfl rfl rfl HAP.out) trivial ?_
          try simp only [Act.put, List.setIfInBounds_toArray, List.set_cons_zero, List.set_cons_succ]
          refine take_run (i := 8) (oi := { dst := some 46, op := Go.Op.nilCheck (Go.Operand.tmp 38), type := 0, pos := "ref.go:33", after := #[{ on := 0, ground := Go.Ground.data }, { on := 0, ground := Go.Ground.phase }, { on := 1, ground := Go.Ground.phase }, { on := 2, ground := Go.Ground.phase }, { on := 3, ground := Go.Ground.phase }, { on := 4, ground := Go.Ground.phase }, { on := 5, ground := Go.Ground.phase }, { on := 6, ground := Go.Ground.phase }, { on := 7, ground := Go.Ground.phase }], guard := none }) (v := .pointer (some ⟨R, 0, none⟩)) rfl (by kernel_rfl) (by kernel_rfl) (by kernel_rfl) (fun _ _ _ h => h) (by rfl) ?_ trivial ?_
          · (intro wq hSw; go_simp <;> with_reducible rfl)
          try simp only [Act.put, List.setIfInBounds_toArray, List.set_cons_zero, List.set_cons_succ]
          refine take_run (i := 9) (oi := { dst := some 47, op := Go.Op.fieldAddr 28 (Go.Operand.tmp 46) 0, type := 0, pos := "ref.go:33", after := #[{ on := 8, ground := Go.Ground.data }, { on := 0, ground := Go.Ground.phase }, { on := 1, ground := Go.Ground.phase }, { on := 2, ground := Go.Ground.phase }, { on := 3, ground := Go.Ground.phase }, { on := 4, ground := Go.Ground.phase }, { on := 5, ground := Go.Ground.phase }, { on := 6, ground := Go.Ground.phase }, { on := 7, ground := Go.Ground.phase }], guard := none }) (v := .pointer (some ⟨R, 0, none⟩)) rfl (by kernel_rfl) (by kernel_rfl) (by kernel_rfl) (fun _ _ _ h => h) (by rfl) ?_ trivial ?_
          · (intro wq hSw; go_simp <;> with_reducible rfl)
          try simp only [Act.put, List.setIfInBounds_toArray, List.set_cons_zero, List.set_cons_succ]
          refine take_eff (i := 10) (oi := { dst := none, op := Go.Op.store 26 (Go.Operand.tmp 47) (Go.Operand.tmp 45), type := 0, pos := "ref.go:33", after := #[{ on := 9, ground := Go.Ground.data }, { on := 7, ground := Go.Ground.data }, { on := 7, ground := Go.Ground.chain }, { on := 0, ground := Go.Ground.phase }, { on := 1, ground := Go.Ground.phase }, { on := 2, ground := Go.Ground.phase }, { on := 3, ground := Go.Ground.phase }, { on := 4, ground := Go.Ground.phase }, { on := 5, ground := Go.Ground.phase }, { on := 6, ground := Go.Ground.phase }, { on := 7, ground := Go.Ground.phase }], guard := none }) rfl (by kernel_rfl) (by rfl) (by have cc := HC.out.1; have cd := HC.out.2; go_simp <;> with_reducible rfl) trivial ?_
          try simp only [Act.put]
          refine wpAnyH_done (by kernel_rfl) ?_ _
          clear hHeld
          go_wp2
          go_ret
          exact .inr (.inr (.inr ⟨HW.out, HB.out.1, HB.out.2, rfl, FIN.out⟩))
        · try simp only [Act.put, List.setIfInBounds_toArray, List.set_cons_zero, List.set_cons_succ]
          refine take_two (i := 4) (j := 6) (oi := { dst := some 42, op := Go.Op.load 26 (Go.Operand.tmp 41), type := 26, pos := "ref.go:33", after := #[{ on := 3, ground := Go.Ground.data }], guard := none }) (oj := { dst := some 44, op := Go.Op.buildSlice 26 1 #[(0, Go.Operand.tmp 43)], type := 26, pos := "ref.go:33", after := #[{ on := 5, ground := Go.Ground.data }], guard := none }) (.slice a m c) (.slice (some ⟨w4.heap.size, 0, none⟩) 1 1) rfl rfl (by kernel_rfl) (by rfl) (by rfl) (by have cc := CR.out; go_simp <;> with_reducible rfl) trivial (by go_simp <;> with_reducible rfl) trivial ?_ ?_
          · try simp only [Act.put, List.setIfInBounds_toArray, List.set_cons_zero, List.set_cons_succ]
            refine take_val (i := 6) (oi := { dst := some 44, op := Go.Op.buildSlice 26 1 #[(0, Go.Operand.tmp 43)], type := 26, pos := "ref.go:33", after := #[{ on := 5, ground := Go.Ground.data }], guard := none }) (.slice (some ⟨w4.heap.size, 0, none⟩) 1 1) rfl (by kernel_rfl) (by rfl) (by go_simp <;> with_reducible rfl) trivial ?_
            try simp only [Act.put, List.setIfInBounds_toArray, List.set_cons_zero, List.set_cons_succ]
            refine take_val (i := 7) (oi := { dst := some 45, op := Go.Op.call { callee := Go.Callee.builtin Go.Builtin.append, args := #[Go.Operand.tmp 42, Go.Operand.tmp 44], argTypes := #[26, 26] }, type := 26, pos := "ref.go:33", after := #[{ on := 4, ground := Go.Ground.data }, { on := 6, ground := Go.Ground.data }], guard := none }) (.slice (some ⟨g, 0, none⟩) (m + 1) gc) rfl (by kernel_rfl) (by rfl) (exec_appN (.tmp 42) (.tmp 44) 26 rfl rfl rfl HAP.out) trivial ?_
            try simp only [Act.put, List.setIfInBounds_toArray, List.set_cons_zero, List.set_cons_succ]
            refine take_run (i := 8) (oi := { dst := some 46, op := Go.Op.nilCheck (Go.Operand.tmp 38), type := 0, pos := "ref.go:33", after := #[{ on := 0, ground := Go.Ground.data }, { on := 0, ground := Go.Ground.phase }, { on := 1, ground := Go.Ground.phase }, { on := 2, ground := Go.Ground.phase }, { on := 3, ground := Go.Ground.phase }, { on := 4, ground := Go.Ground.phase }, { on := 5, ground := Go.Ground.phase }, { on := 6, ground := Go.Ground.phase }, { on := 7, ground := Go.Ground.phase }], guard := none }) (v := .pointer (some ⟨R, 0, none⟩)) rfl (by kernel_rfl) (by kernel_rfl) (by kernel_rfl) (fun _ _ _ h => h) (by rfl) ?_ trivial ?_
            · (intro wq hSw; go_simp <;> with_reducible rfl)
            try simp only [Act.put, List.setIfInBounds_toArray, List.set_cons_zero, List.set_cons_succ]
            refine take_run (i := 9) (oi := { dst := some 47, op := Go.Op.fieldAddr 28 (Go.Operand.tmp 46) 0, type := 0, pos := "ref.go:33", after := #[{ on := 8, ground := Go.Ground.data }, { on := 0, ground := Go.Ground.phase }, { on := 1, ground := Go.Ground.phase }, { on := 2, ground := Go.Ground.phase }, { on := 3, ground := Go.Ground.phase }, { on := 4, ground := Go.Ground.phase }, { on := 5, ground := Go.Ground.phase }, { on := 6, ground := Go.Ground.phase }, { on := 7, ground := Go.Ground.phase }], guard := none }) (v := .pointer (some ⟨R, 0, none⟩)) rfl (by kernel_rfl) (by kernel_rfl) (by kernel_rfl) (fun _ _ _ h => h) (by rfl) ?_ trivial ?_
            · (intro wq hSw; go_simp <;> with_reducible rfl)
            try simp only [Act.put, List.setIfInBounds_toArray, List.set_cons_zero, List.set_cons_succ]
            refine take_eff (i := 10) (oi := { dst := none, op := Go.Op.store 26 (Go.Operand.tmp 47) (Go.Operand.tmp 45), type := 0, pos := "ref.go:33", after := #[{ on := 9, ground := Go.Ground.data }, { on := 7, ground := Go.Ground.data }, { on := 7, ground := Go.Ground.chain }, { on := 0, ground := Go.Ground.phase }, { on := 1, ground := Go.Ground.phase }, { on := 2, ground := Go.Ground.phase }, { on := 3, ground := Go.Ground.phase }, { on := 4, ground := Go.Ground.phase }, { on := 5, ground := Go.Ground.phase }, { on := 6, ground := Go.Ground.phase }, { on := 7, ground := Go.Ground.phase }], guard := none }) rfl (by kernel_rfl) (by rfl) (by have cc := HC.out.1; have cd := HC.out.2; go_simp <;> with_reducible rfl) trivial ?_
            try simp only [Act.put]
            refine wpAnyH_done (by kernel_rfl) ?_ _
            clear hHeld
            go_wp2
            go_ret
            exact .inr (.inr (.inr ⟨HW.out, HB.out.1, HB.out.2, rfl, FIN.out⟩))
          · try simp only [Act.put, List.setIfInBounds_toArray, List.set_cons_zero, List.set_cons_succ]
            refine take_val (i := 4) (oi := { dst := some 42, op := Go.Op.load 26 (Go.Operand.tmp 41), type := 26, pos := "ref.go:33", after := #[{ on := 3, ground := Go.Ground.data }], guard := none }) (.slice a m c) rfl (by kernel_rfl) (by rfl) (by have cc := CRA.out; go_simp <;> with_reducible rfl) trivial ?_
            try simp only [Act.put, List.setIfInBounds_toArray, List.set_cons_zero, List.set_cons_succ]
            refine take_val (i := 7) (oi := { dst := some 45, op := Go.Op.call { callee := Go.Callee.builtin Go.Builtin.append, args := #[Go.Operand.tmp 42, Go.Operand.tmp 44], argTypes := #[26, 26] }, type := 26, pos := "ref.go:33", after := #[{ on := 4, ground := Go.Ground.data }, { on := 6, ground := Go.Ground.data }], guard := none }) (.slice (some ⟨g, 0, none⟩) (m + 1) gc) rfl (by kernel_rfl) (by rfl) (exec_appN (.tmp 42) (.tmp 44) 26 rfl rfl rfl HAP.out) trivial ?_
            try simp only [Act.put, List.setIfInBounds_toArray, List.set_cons_zero, List.set_cons_succ]
            refine take_run (i := 8) (oi := { dst := some 46, op := Go.Op.nilCheck (Go.Operand.tmp 38), type := 0, pos := "ref.go:33", after := #[{ on := 0, ground := Go.Ground.data }, { on := 0, ground := Go.Ground.phase }, { on := 1, ground := Go.Ground.phase }, { on := 2, ground := Go.Ground.phase }, { on := 3, ground := Go.Ground.phase }, { on := 4, ground := Go.Ground.phase }, { on := 5, ground := Go.Ground.phase }, { on := 6, ground := Go.Ground.phase }, { on := 7, ground := Go.Ground.phase }], guard := none }) (v := .pointer (some ⟨R, 0, none⟩)) rfl (by kernel_rfl) (by kernel_rfl) (by kernel_rfl) (fun _ _ _ h => h) (by rfl) ?_ trivial ?_
            · (intro wq hSw; go_simp <;> with_reducible rfl)
            try simp only [Act.put, List.setIfInBounds_toArray, List.set_cons_zero, List.set_cons_succ]
            refine take_run (i := 9) (oi := { dst := some 47, op := Go.Op.fieldAddr 28 (Go.Operand.tmp 46) 0, type := 0, pos := "ref.go:33", after := #[{ on := 8, ground := Go.Ground.data }, { on := 0, ground := Go.Ground.phase }, { on := 1, ground := Go.Ground.phase }, { on := 2, ground := Go.Ground.phase }, { on := 3, ground := Go.Ground.phase }, { on := 4, ground := Go.Ground.phase }, { on := 5, ground := Go.Ground.phase }, { on := 6, ground := Go.Ground.phase }, { on := 7, ground := Go.Ground.phase }], guard := none }) (v := .pointer (some ⟨R, 0, none⟩)) rfl (by kernel_rfl) (by kernel_rfl) (by kernel_rfl) (fun _ _ _ h => h) (by rfl) ?_ trivial ?_
            · (intro wq hSw; go_simp <;> with_reducible rfl)
            try simp only [Act.put, List.setIfInBounds_toArray, List.set_cons_zero, List.set_cons_succ]
            refine take_eff (i := 10) (oi := { dst := none, op := Go.Op.store 26 (Go.Operand.tmp 47) (Go.Operand.tmp 45), type := 0, pos := "ref.go:33", after := #[{ on := 9, ground := Go.Ground.data }, { on := 7, ground := Go.Ground.data }, { on := 7, ground := Go.Ground.chain }, { on := 0, ground := Go.Ground.phase }, { on := 1, ground := Go.Ground.phase }, { on := 2, ground := Go.Ground.phase }, { on := 3, ground := Go.Ground.phase }, { on := 4, ground := Go.Ground.phase }, { on := 5, ground := Go.Ground.phase }, { on := 6, ground := Go.Ground.phase }, { on := 7, ground := Go.Ground.phase }], guard := none }) rfl (by kernel_rfl) (by rfl) (by have cc := HC.out.1; have cd := HC.out.2; go_simp <;> with_reducible rfl) trivial ?_
            try simp only [Act.put]
            refine wpAnyH_done (by kernel_rfl) ?_ _
            clear hHeld
            go_wp2
            go_ret
            exact .inr (.inr (.inr ⟨HW.out, HB.out.1, HB.out.2, rfl, FIN.out⟩))
      · have g1 : (1048576 : Int) < (b.length : Int) := by omega
        have HB : Hid (1048576 < b.length) := by show _ < _; omega
        clear hb ev hbs
        go_enter Try.func11, Try.ntmps11
        go_wp2_with fail
        refine HK1.mono ?_
        rintro e w1 ⟨rfl, hw⟩
        subst w1
        go_wp2_with fail
        refine HK2.mono ?_
        rintro e w1 ⟨rfl, hw⟩
        subst w1
        clear HK1 HK2
        go_wp2
        go_ret
        exact .inr (.inl ⟨HW.out, HB.out, rfl, Below.refl _ _⟩)
end Go.Proofs.Ytccmehbdnnelhaa
