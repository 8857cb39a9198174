/- The reference's disk: Write. -/
import Derived.Test.YtnpebdnfdbeiaaaRDsk
import Derived.Test.YtnpebdnfdbeiaaaRanges
import Derived.Test.YtnpebdnfdbeiaaaDWait
namespace Go.Proofs.Ytnpebdnfdbeiaaa
open Go.RowKit
set_option linter.unusedVariables false

theorem infoRW : (Try.prog.info? 69).map (fun i => (i.zero, i.size, i.bytes)) = some (some (.agg #[.int .i64 0, .slice none 0 0]), 2, 32) := by kernel_rfl
/-- A write more waits. -/
theorem RDsk.more {w : World} {m : RM} {n : Nat} {s s' : DS} (h : RDsk w m n s) {i g : Nat} {P : List (BitVec 8)} (hP : Con w g P) (hk : s.ws.length < 1000000) (hok : s'.ok n) (hi : s'.img = s.img) (hw : s'.ws = s.ws ++ [(i, P)]) (h1 : s'.fa = s.fa) (h2 : s'.fu = s.fu) (h3 : s'.de = s.de) (N : Nat) (hN : N ≤ g) (hN2 : N ≤ w.heap.size) :
    ∃ G c w3, (Builtin.append_ #[37, 37] 37 #[m.lv, .slice (some ⟨w.heap.size, 0, none⟩) 1 1]).run Try.prog (w.alloc (.cells #[.int .i64 (i : Int), .slice (some ⟨g, 0, none⟩) 256 256] 69)) = .ok (.slice (some ⟨G, 0, none⟩) (s.ws.length + 1) c) w3 ∧
      w3.cell? ⟨m.R, 1, none⟩ = some m.lv ∧ w3.frozen? ⟨m.R, 1, none⟩ = false ∧ RDsk (w3.setCell ⟨m.R, 1, none⟩ (.slice (some ⟨G, 0, none⟩) (s.ws.length + 1) c)) { m with lv := .slice (some ⟨G, 0, none⟩) (s.ws.length + 1) c, gl := m.gl ++ [g] } n s' ∧ ROnly m w (w3.setCell ⟨m.R, 1, none⟩ (.slice (some ⟨G, 0, none⟩) (s.ws.length + 1) c)) ∧ m.next { m with lv := .slice (some ⟨G, 0, none⟩) (s.ws.length + 1) c, gl := m.gl ++ [g] } N := by
  have bA := (Below.refl w.heap.size w).alloc (Nat.le_refl _) (.cells #[.int .i64 (i : Int), .slice (some ⟨g, 0, none⟩) 256 256] 69)
  have hA := h.below bA
  have pA := hP.below bA
  have zA : (w.alloc (.cells #[.int .i64 (i : Int), .slice (some ⟨g, 0, none⟩) 256 256] 69)).heap.size = w.heap.size + 1 := by simp
  obtain ⟨i0, hi0, hz0, hz1, hz2⟩ := info_parts infoRW
  obtain ⟨G, c, w3, hr, o3, gr, hat, hlt⟩ := run_append_lies (P := Try.prog) (w.alloc (.cells #[.int .i64 (i : Int), .slice (some ⟨g, 0, none⟩) 256 256] 69)) 37 37 0 69 i0 _ 2 32 Try.underlying37 hi0 hz0 hz1 hz2 rfl (by omega) m.lv s.ws.length (lcells s.ws m.gl) hA.hl
    ⟨w.heap.size, 0, none⟩ 1 1 [.int .i64 (i : Int), sl g] (by rfl) (World.news_of_block (cs := #[.int .i64 (i : Int), .slice (some ⟨g, 0, none⟩) 256 256]) (t := 69) (fr := (0, 0)) (heap_alloc_new w _)) (by simp [Value.oneCell']) (by omega) (by unfold maxLen; omega) (by omega) (Nat.zero_le _) _ rfl
  have lR := hA.lt (.inl (.inl rfl) : m.all m.R)
  have kR : w3.heap[m.R]? = _ := (gr.block m.R lR (fun e => hA.R_l e.symm rfl)).trans hA.hd
  obtain ⟨v, ev⟩ : ∃ v, Value.slice (some ⟨G, 0, none⟩) (s.ws.length + 1) c = v := ⟨_, rfl⟩
  have far : ∀ k, k ≠ m.R → (w3.setCell ⟨m.R, 1, none⟩ v).heap[k]? = w3.heap[k]? := fun k hk => Below.heap_setCell _ _ _ k (fun e => hk (by simpa using e))
  have nG : G ≠ m.R := fun x => by
    rcases hat with e | e
    · exact hA.R_l e x
    · omega
  have kc : ∀ (j : Nat) (l : List (BitVec 8)), Con (w.alloc (.cells #[.int .i64 (i : Int), .slice (some ⟨g, 0, none⟩) 256 256] 69)) j l → Con (w3.setCell ⟨m.R, 1, none⟩ v) j l := fun j l hj => by
    refine hj.same ?_
    rw [far j (hA.R_c hj)]
    exact gr.block j hj.lt (fun e => hA.l_c e.symm hj rfl)
  rw [ev] at hr o3
  refine ⟨G, c, w3, by rw [ev]; exact hr, by simp [World.cell?, kR], by simp [World.frozen?, kR], ?_, ?_, ⟨rfl, fun k hk' => ?_, fun k hk' => ?_⟩⟩
  · rw [ev]
    refine ⟨hok, ?_, ?_, ?_, ?_, fun j hj => ?_, fun j hj hj' => ?_⟩
    · have := block_put kR 1 v
      rw [h1, h2, h3]
      simpa using this
    · refine owns_same hA.hs (fun k e => ?_)
      rw [far k (hA.R_s e)]
      exact gr.block k (hA.hs.lt k e).2 (fun x => hA.s_l e x.symm rfl)
    · show World.ownsRow _ _ _ _ v s'.ws.length (lcells s'.ws (m.gl ++ [g]))
      rw [hw, lcells_snoc _ _ _ _ h.lg, List.length_append]
      refine owns_same o3 (fun k e => far k ?_)
      rw [← ev] at e
      obtain rfl : G = k := by simpa [Value.ownBlock] using e
      exact nG
    · show (m.gl ++ [g]).length = _
      rw [hw, List.length_append, List.length_append, h.lg]
      rfl
    · rw [hi]
      exact kc _ _ (hA.cs j hj)
    · show Con _ (m.gl ++ [g])[j] _
      have ew : s'.ws[j] = (s.ws ++ [(i, P)])[j]'(by rw [← hw]; exact hj') := by simp [hw]
      rw [ew]
      by_cases x : j < m.gl.length
      · have x' : j < s.ws.length := by rw [← h.lg]; exact x
        rw [List.getElem_append_left x, List.getElem_append_left x']
        exact kc _ _ (hA.cl j x x')
      · have ej : j = m.gl.length := by simp at hj; omega
        have ej2 : j = s.ws.length := by rw [ej, h.lg]
        have q1 : (m.gl ++ [g])[j]'hj = g := by rw [List.getElem_append_right (by omega)]; simp
        have q2 : (s.ws ++ [(i, P)])[j]'(by rw [← hw]; exact hj') = (i, P) := by rw [List.getElem_append_right (by omega)]; simp
        rw [q1, q2]
        exact kc _ _ pA
  · rw [ev]
    refine ⟨gr.os, gr.tape, gr.output, by have := gr.size; simp at this ⊢; omega, fun k hk' ho => ?_⟩
    rw [far k (fun e => ho (.inl e)), gr.block k (by omega) (fun e => ho (.inr (.inr e.symm))), bA.block k hk']
  · rcases hk' with e | e | e
    · exact .inl (.inl e)
    · exact .inl (.inr (.inl e))
    · obtain rfl : G = k := by simpa [Value.ownBlock] using e
      rcases hat with e | e
      · exact .inl (.inr (.inr e))
      · exact .inr (by omega)
  · rcases hk' with (e | e | e) | e | e
    · exact .inl (.inl (.inl e))
    · exact .inl (.inl (.inr (.inl e)))
    · obtain rfl : G = k := by simpa [Value.ownBlock] using e
      rcases hat with e | e
      · exact .inl (.inl (.inr (.inr e)))
      · exact .inr (by omega)
    · exact .inl (.inr (.inl e))
    · rcases List.mem_append.1 e with e | e
      · exact .inl (.inr (.inr e))
      · rw [List.mem_singleton.1 e]; exact .inr hN
set_option maxRecDepth 100000 in
set_option maxHeartbeats 3200000 in
theorem refWrite_any (m : RM) (n : Nat) (s : DS) (i : Int) (a : Option Addr) (len cap : Nat) (b : List (BitVec 8)) (w : World) (h : RDsk w m n s) (hs : Seen w a len b) (hk : s.ws.length < 1000000) :
    Calls Try.prog 25 #[.pointer (some ⟨m.R, 0, none⟩), .int .i64 i, .slice a len cap] w fun e w' => ∃ m', e = .returned (.int .i64 (whyW n s i b : Nat)) ∧ RDo w w' m m' n (writeD n s i b) := by
  have hok := writeD_ok h.ok i b hk
  have H : Hid (RDsk w m n s) := h
  have HS : Hid (Seen w a len b) := hs
  have HK : Hid (s.ws.length < 1000000) := hk
  have HOK : Hid ((writeD n s i b).ok n) := hok
  obtain ⟨g, c, es⟩ := h.sform
  obtain ⟨la, lc, el⟩ := h.lform
  have c0 := h.cells.1
  have c1 := h.cells.2.1
  have c3 := h.cells.2.2.2.1
  have c4 := h.cells.2.2.2.2.1
  have EL : Hid (m.lv = .slice la s.ws.length lc) := el
  have hb : b.length = len := hs.1.symm
  obtain ⟨R, eR⟩ : ∃ R, m.R = R := ⟨_, rfl⟩
  have ER : Hid (m.R = R) := eR
  rw [es, eR] at c0
  rw [el, eR] at c1
  rw [eR] at c3 c4
  rw [eR]
  clear h es el eR hok
  by_cases hde : s.de = true
  · have e1 : whyW n s i b = 21 := by unfold whyW; rw [if_pos hde]
    have e2 : writeD n s i b = s := by unfold writeD; rw [if_neg (by rw [e1]; decide)]
    rw [hde] at c4
    rw [e1, e2]
    have FIN : Hid (RDo w w m m n s) := ⟨H.out, ROnly.refl m w, RM.next.refl m _⟩
    clear hs hk hde e1 e2
    go_enter Try.func25, Try.ntmps25
    go_wp2
    go_ret
    first | exact ⟨m, rfl, FIN.out⟩ | exact ⟨rfl, m, FIN.out⟩
  · have hde' : s.de = false := by simpa using hde
    rw [hde'] at c4
    by_cases hi : 0 ≤ i ∧ i < n
    · have g1 : ¬ i < 0 := by omega
      have g2 : ¬ (n : Int) ≤ i := by omega
      by_cases hl : 256 < b.length
      · have e1 : whyW n s i b = 3 := by unfold whyW; rw [if_neg hde, if_neg (fun h => h hi), if_pos hl]
        have e2 : writeD n s i b = s := by unfold writeD; rw [if_neg (by rw [e1]; decide)]
        rw [e1, e2]
        have g3 : (256 : Int) < (len : Int) := by omega
        have FIN : Hid (RDo w w m m n s) := ⟨H.out, ROnly.refl m w, RM.next.refl m _⟩
        clear hs hk hde e1 e2 hl hi hde'
        go_enter Try.func25, Try.ntmps25
        go_wp2
        go_ret
        first | exact ⟨m, rfl, FIN.out⟩ | exact ⟨rfl, m, FIN.out⟩
      · have g3 : ¬ (256 : Int) < (len : Int) := by omega
        by_cases hf : s.fu = true
        · have e1 : whyW n s i b = 4 := by unfold whyW; rw [if_neg hde, if_neg (fun h => h hi), if_neg hl, if_pos hf]
          have e2 : writeD n s i b = s := by unfold writeD; rw [if_neg (by rw [e1]; decide)]
          rw [e1, e2]
          rw [hf] at c3
          have FIN : Hid (RDo w w m m n s) := ⟨H.out, ROnly.refl m w, RM.next.refl m _⟩
          clear hs hk hde e1 e2 hl hi hde' hf
          go_enter Try.func25, Try.ntmps25
          go_wp2
          go_ret
          first | exact ⟨m, rfl, FIN.out⟩ | exact ⟨rfl, m, FIN.out⟩
        · have hf' : s.fu = false := by simpa using hf
          rw [hf'] at c3
          have e1 : whyW n s i b = 0 := by unfold whyW; rw [if_neg hde, if_neg (fun h => h hi), if_neg hl, if_neg hf]
          have e2 : writeD n s i b = wrote s i.toNat b := by unfold writeD; rw [if_pos e1]
          rw [e1, e2]
          rw [e2] at HOK
          obtain ⟨j, rfl⟩ : ∃ j : Nat, i = j := ⟨i.toNat, by omega⟩
          rw [Int.toNat_natCast] at HOK ⊢
          have HF : Hid (Calls Try.prog 19 #[.slice a len cap] w.drew _) := full_ref a len cap b w.drew (hs.below (Below.refl _ w).drew)
          have PM : pad (b.take 256) = pad b := pad_most (by omega)
          have GROW : Hid (∀ x1 g, Below w.drew.heap.size w.drew x1 → w.drew.heap.size ≤ g → Con x1 g (pad (b.take 256)) → _) := fun x1 g bx h0 h1 => RDsk.more (s' := wrote s j b) (i := j) (P := pad b) (H.out.below ((Below.refl w.heap.size w).drew.trans bx)) (by rw [← PM]; exact h1) HK.out HOK.out rfl rfl rfl rfl rfl w.heap.size h0 ((Below.refl w.heap.size w).drew.trans bx).size
          have LOW : Hid (∀ x1, Below w.drew.heap.size w.drew x1 → Below w.heap.size w x1) := fun x1 bx => (Below.refl w.heap.size w).drew.trans bx
          have c1d : w.drew.cell? ⟨R, 1, none⟩ = some (.slice la s.ws.length lc) := c1
          have CB : Hid (∀ x1, Below w.drew.heap.size w.drew x1 → x1.cell? ⟨R, 1, none⟩ = some (.slice la s.ws.length lc) ∧ ∀ o, (x1.alloc o).cell? ⟨R, 1, none⟩ = some (.slice la s.ws.length lc)) := fun x1 bx => by
            have q := H.out.below ((Below.refl w.heap.size w).drew.trans bx)
            have q1 := q.cells.2.1
            have q2 := fun o => (q.below ((Below.refl x1.heap.size x1).alloc (Nat.le_refl _) o)).cells.2.1
            rw [EL.out, ER.out] at q1 q2
            exact ⟨q1, q2⟩
          rw [ER.out, EL.out] at GROW
          clear hs hk hde e1 e2 hl hi hde' hf hf' PM
          go_enter Try.func25, Try.ntmps25
          go_wp2_with fail
          refine (wpIn_wide (n := 1)).1 ?_
          refine wpIn_region_any (by kernel_rfl) ?_
          change wpAnyIn _ _ _ _ _ _ _ _ _ (World.drew _)
          refine any_take 0 (oi := { dst := some 33, op := Go.Op.move (Go.Operand.tmp 0), type := 28, pos := "ref.go:93", after := #[], guard := none }) (.pointer (some ⟨R, 0, none⟩)) rfl (by kernel_rfl) (by kernel_rfl) (by kernel_rfl) (fun _ _ _ h => h) (by rfl) (by intro wq; go_simp <;> with_reducible rfl) (fun _ => rfl) ?_
          simp only [Act.put, List.setIfInBounds_toArray, List.set_cons_zero, List.set_cons_succ]
          refine any_take 1 (oi := { dst := some 34, op := Go.Op.move (Go.Operand.tmp 0), type := 28, pos := "ref.go:93", after := #[], guard := none }) (.pointer (some ⟨R, 0, none⟩)) rfl (by kernel_rfl) (by kernel_rfl) (by kernel_rfl) (fun _ _ _ h => h) (by rfl) (by intro wq; go_simp <;> with_reducible rfl) (fun _ => rfl) ?_
          simp only [Act.put, List.setIfInBounds_toArray, List.set_cons_zero, List.set_cons_succ]
          refine any_take 2 (oi := { dst := some 35, op := Go.Op.nilCheck (Go.Operand.tmp 34), type := 0, pos := "ref.go:93", after := #[{ on := 1, ground := Go.Ground.data }], guard := none }) (.pointer (some ⟨R, 0, none⟩)) rfl (by kernel_rfl) (by kernel_rfl) (by kernel_rfl) (fun _ _ _ h => h) (by rfl) (by intro wq; go_simp <;> with_reducible rfl) (fun _ => rfl) ?_
          simp only [Act.put, List.setIfInBounds_toArray, List.set_cons_zero, List.set_cons_succ]
          refine any_take 3 (oi := { dst := some 36, op := Go.Op.fieldAddr 39 (Go.Operand.tmp 35) 1, type := 0, pos := "ref.go:93", after := #[{ on := 2, ground := Go.Ground.data }], guard := none }) (.pointer (some ⟨R, 1, none⟩)) rfl (by kernel_rfl) (by kernel_rfl) (by kernel_rfl) (fun _ _ _ h => h) (by rfl) (by intro wq; go_simp <;> with_reducible rfl) (fun _ => rfl) ?_
          simp only [Act.put, List.setIfInBounds_toArray, List.set_cons_zero, List.set_cons_succ]
          refine any_take 5 (oi := { dst := some 38, op := Go.Op.move (Go.Operand.tmp 1), type := 3, pos := "ref.go:93", after := #[], guard := none }) (.int .i64 (j : Int)) rfl (by kernel_rfl) (by kernel_rfl) (by kernel_rfl) (fun _ _ _ h => h) (by rfl) (by intro wq; go_simp <;> with_reducible rfl) (fun _ => rfl) ?_
          simp only [Act.put, List.setIfInBounds_toArray, List.set_cons_zero, List.set_cons_succ]
          refine any_take 6 (oi := { dst := some 39, op := Go.Op.move (Go.Operand.tmp 2), type := 22, pos := "ref.go:93", after := #[], guard := none }) (.slice a len cap) rfl (by kernel_rfl) (by kernel_rfl) (by kernel_rfl) (fun _ _ _ h => h) (by rfl) (by intro wq; go_simp <;> with_reducible rfl) (fun _ => rfl) ?_
          simp only [Act.put, List.setIfInBounds_toArray, List.set_cons_zero, List.set_cons_succ]
          refine any_two 4 7 (by kernel_rfl) ?_ ?_
          · -- load, call
            refine op_value (.slice la s.ws.length lc) (i := 4) (oi := { dst := some 37, op := Go.Op.load 37 (Go.Operand.tmp 36), type := 37, pos := "ref.go:93", after := #[{ on := 3, ground := Go.Ground.data }], guard := none }) rfl (by rfl) (by go_simp <;> with_reducible rfl) ?_
            simp only [Act.put, List.setIfInBounds_toArray, List.set_cons_zero, List.set_cons_succ]
            refine any_one 7 (by kernel_rfl) ?_
            refine op_call (i := 7) (oi := { dst := some 40, op := Go.Op.call { callee := Go.Callee.value (Go.Operand.func 19), args := #[Go.Operand.tmp 39], argTypes := #[22] }, type := 22, pos := "ref.go:93", after := #[{ on := 6, ground := Go.Ground.data }], guard := none }) 19 _ rfl (by rfl) (by go_simp <;> with_reducible rfl) ?_
            refine (HF.out).mono ?_
            rintro e x1 ⟨g', rfl, hg0, hg1, bx⟩
            refine ⟨_, rfl, ?_⟩
            simp only [Act.put, List.setIfInBounds_toArray, List.set_cons_zero, List.set_cons_succ]
            obtain ⟨G, c', x3, hr, k0, k1, p1, p2, p3⟩ := GROW.out x1 g' bx hg0 hg1
            have c1x := (CB.out x1 bx).1
            have cA := (CB.out x1 bx).2 (.cells #[.int .i64 (j : Int), .slice (some ⟨g', 0, none⟩) 256 256] 69)
            have HR : Hid _ := hr
            have P1 : Hid _ := p1
            have P2 : Hid _ := ROnly.trans (ROnly.of_below (LOW.out x1 bx)) (RM.next.refl m _) p2
            have P3 : Hid _ := p3
            clear hr p1 p2 p3 bx hg0 hg1
            refine any_take 8 (oi := { dst := some 41, op := Go.Op.build 69 #[(0, Go.Operand.tmp 38), (1, Go.Operand.tmp 40)], type := 69, pos := "ref.go:93", after := #[{ on := 5, ground := Go.Ground.data }, { on := 7, ground := Go.Ground.data }], guard := none }) (.agg #[.int .i64 (j : Int), .slice (some ⟨g', 0, none⟩) 256 256]) rfl (by kernel_rfl) (by kernel_rfl) (by kernel_rfl) (fun _ _ _ h => h) (by rfl) (by intro wq; go_simp <;> with_reducible rfl) (fun _ => rfl) ?_
            simp only [Act.put, List.setIfInBounds_toArray, List.set_cons_zero, List.set_cons_succ]
            refine any_one 9 (by kernel_rfl) ?_
            refine op_value (.slice (some ⟨x1.heap.size, 0, none⟩) 1 1) (i := 9) (oi := { dst := some 42, op := Go.Op.buildSlice 37 1 #[(0, Go.Operand.tmp 41)], type := 37, pos := "ref.go:93", after := #[{ on := 8, ground := Go.Ground.data }], guard := none }) rfl (by rfl) (by go_simp <;> with_reducible rfl) ?_
            simp only [Act.put, List.setIfInBounds_toArray, List.set_cons_zero, List.set_cons_succ]
            refine any_one 10 (by kernel_rfl) ?_
            refine op_value (.slice (some ⟨G, 0, none⟩) (s.ws.length + 1) c') (i := 10) (oi := { dst := some 43, op := Go.Op.call { callee := Go.Callee.builtin Go.Builtin.append, args := #[Go.Operand.tmp 37, Go.Operand.tmp 42], argTypes := #[37, 37] }, type := 37, pos := "ref.go:93", after := #[{ on := 4, ground := Go.Ground.data }, { on := 9, ground := Go.Ground.data }, { on := 7, ground := Go.Ground.chain }], guard := none }) rfl (by rfl) (exec_appendW (t := 37) rfl rfl rfl HR.out) ?_
            simp only [Act.put, List.setIfInBounds_toArray, List.set_cons_zero, List.set_cons_succ]
            refine any_one 11 (by kernel_rfl) ?_
            refine op_value (.pointer (some ⟨R, 0, none⟩)) (i := 11) (oi := { dst := some 44, op := Go.Op.nilCheck (Go.Operand.tmp 33), type := 0, pos := "ref.go:93", after := #[{ on := 0, ground := Go.Ground.data }, { on := 0, ground := Go.Ground.phase }, { on := 1, ground := Go.Ground.phase }, { on := 2, ground := Go.Ground.phase }, { on := 3, ground := Go.Ground.phase }, { on := 4, ground := Go.Ground.phase }, { on := 5, ground := Go.Ground.phase }, { on := 6, ground := Go.Ground.phase }, { on := 7, ground := Go.Ground.phase }, { on := 8, ground := Go.Ground.phase }, { on := 9, ground := Go.Ground.phase }, { on := 10, ground := Go.Ground.phase }], guard := none }) rfl (by rfl) (by go_simp <;> with_reducible rfl) ?_
            simp only [Act.put, List.setIfInBounds_toArray, List.set_cons_zero, List.set_cons_succ]
            refine any_one 12 (by kernel_rfl) ?_
            refine op_value (.pointer (some ⟨R, 1, none⟩)) (i := 12) (oi := { dst := some 45, op := Go.Op.fieldAddr 39 (Go.Operand.tmp 44) 1, type := 0, pos := "ref.go:93", after := #[{ on := 11, ground := Go.Ground.data }, { on := 0, ground := Go.Ground.phase }, { on := 1, ground := Go.Ground.phase }, { on := 2, ground := Go.Ground.phase }, { on := 3, ground := Go.Ground.phase }, { on := 4, ground := Go.Ground.phase }, { on := 5, ground := Go.Ground.phase }, { on := 6, ground := Go.Ground.phase }, { on := 7, ground := Go.Ground.phase }, { on := 8, ground := Go.Ground.phase }, { on := 9, ground := Go.Ground.phase }, { on := 10, ground := Go.Ground.phase }], guard := none }) rfl (by rfl) (by go_simp <;> with_reducible rfl) ?_
            simp only [Act.put, List.setIfInBounds_toArray, List.set_cons_zero, List.set_cons_succ]
            refine any_one 13 (by kernel_rfl) ?_
            refine op_effect (i := 13) (oi := { dst := none, op := Go.Op.store 37 (Go.Operand.tmp 45) (Go.Operand.tmp 43), type := 0, pos := "ref.go:93", after := #[{ on := 12, ground := Go.Ground.data }, { on := 10, ground := Go.Ground.data }, { on := 10, ground := Go.Ground.chain }, { on := 0, ground := Go.Ground.phase }, { on := 1, ground := Go.Ground.phase }, { on := 2, ground := Go.Ground.phase }, { on := 3, ground := Go.Ground.phase }, { on := 4, ground := Go.Ground.phase }, { on := 5, ground := Go.Ground.phase }, { on := 6, ground := Go.Ground.phase }, { on := 7, ground := Go.Ground.phase }, { on := 8, ground := Go.Ground.phase }, { on := 9, ground := Go.Ground.phase }, { on := 10, ground := Go.Ground.phase }], guard := none }) rfl (by rfl) (by go_simp <;> with_reducible rfl) ?_
            simp only [Act.put]
            refine wpAnyIn_done (by kernel_rfl) ?_ _
            go_wp2
            go_ret
            first | exact ⟨_, rfl, P1.out, P2.out, P3.out⟩ | exact ⟨rfl, _, P1.out, P2.out, P3.out⟩
          · -- call
            refine op_call (i := 7) (oi := { dst := some 40, op := Go.Op.call { callee := Go.Callee.value (Go.Operand.func 19), args := #[Go.Operand.tmp 39], argTypes := #[22] }, type := 22, pos := "ref.go:93", after := #[{ on := 6, ground := Go.Ground.data }], guard := none }) 19 _ rfl (by rfl) (by go_simp <;> with_reducible rfl) ?_
            refine (HF.out).mono ?_
            rintro e x1 ⟨g', rfl, hg0, hg1, bx⟩
            refine ⟨_, rfl, ?_⟩
            simp only [Act.put, List.setIfInBounds_toArray, List.set_cons_zero, List.set_cons_succ]
            obtain ⟨G, c', x3, hr, k0, k1, p1, p2, p3⟩ := GROW.out x1 g' bx hg0 hg1
            have c1x := (CB.out x1 bx).1
            have cA := (CB.out x1 bx).2 (.cells #[.int .i64 (j : Int), .slice (some ⟨g', 0, none⟩) 256 256] 69)
            have HR : Hid _ := hr
            have P1 : Hid _ := p1
            have P2 : Hid _ := ROnly.trans (ROnly.of_below (LOW.out x1 bx)) (RM.next.refl m _) p2
            have P3 : Hid _ := p3
            clear hr p1 p2 p3 bx hg0 hg1
            refine any_take 8 (oi := { dst := some 41, op := Go.Op.build 69 #[(0, Go.Operand.tmp 38), (1, Go.Operand.tmp 40)], type := 69, pos := "ref.go:93", after := #[{ on := 5, ground := Go.Ground.data }, { on := 7, ground := Go.Ground.data }], guard := none }) (.agg #[.int .i64 (j : Int), .slice (some ⟨g', 0, none⟩) 256 256]) rfl (by kernel_rfl) (by kernel_rfl) (by kernel_rfl) (fun _ _ _ h => h) (by rfl) (by intro wq; go_simp <;> with_reducible rfl) (fun _ => rfl) ?_
            simp only [Act.put, List.setIfInBounds_toArray, List.set_cons_zero, List.set_cons_succ]
            refine any_two 4 9 (by kernel_rfl) ?_ ?_
            · -- load
              refine op_value (.slice la s.ws.length lc) (i := 4) (oi := { dst := some 37, op := Go.Op.load 37 (Go.Operand.tmp 36), type := 37, pos := "ref.go:93", after := #[{ on := 3, ground := Go.Ground.data }], guard := none }) rfl (by rfl) (by go_simp <;> with_reducible rfl) ?_
              simp only [Act.put, List.setIfInBounds_toArray, List.set_cons_zero, List.set_cons_succ]
              refine any_one 9 (by kernel_rfl) ?_
              refine op_value (.slice (some ⟨x1.heap.size, 0, none⟩) 1 1) (i := 9) (oi := { dst := some 42, op := Go.Op.buildSlice 37 1 #[(0, Go.Operand.tmp 41)], type := 37, pos := "ref.go:93", after := #[{ on := 8, ground := Go.Ground.data }], guard := none }) rfl (by rfl) (by go_simp <;> with_reducible rfl) ?_
              simp only [Act.put, List.setIfInBounds_toArray, List.set_cons_zero, List.set_cons_succ]
              refine any_one 10 (by kernel_rfl) ?_
              refine op_value (.slice (some ⟨G, 0, none⟩) (s.ws.length + 1) c') (i := 10) (oi := { dst := some 43, op := Go.Op.call { callee := Go.Callee.builtin Go.Builtin.append, args := #[Go.Operand.tmp 37, Go.Operand.tmp 42], argTypes := #[37, 37] }, type := 37, pos := "ref.go:93", after := #[{ on := 4, ground := Go.Ground.data }, { on := 9, ground := Go.Ground.data }, { on := 7, ground := Go.Ground.chain }], guard := none }) rfl (by rfl) (exec_appendW (t := 37) rfl rfl rfl HR.out) ?_
              simp only [Act.put, List.setIfInBounds_toArray, List.set_cons_zero, List.set_cons_succ]
              refine any_one 11 (by kernel_rfl) ?_
              refine op_value (.pointer (some ⟨R, 0, none⟩)) (i := 11) (oi := { dst := some 44, op := Go.Op.nilCheck (Go.Operand.tmp 33), type := 0, pos := "ref.go:93", after := #[{ on := 0, ground := Go.Ground.data }, { on := 0, ground := Go.Ground.phase }, { on := 1, ground := Go.Ground.phase }, { on := 2, ground := Go.Ground.phase }, { on := 3, ground := Go.Ground.phase }, { on := 4, ground := Go.Ground.phase }, { on := 5, ground := Go.Ground.phase }, { on := 6, ground := Go.Ground.phase }, { on := 7, ground := Go.Ground.phase }, { on := 8, ground := Go.Ground.phase }, { on := 9, ground := Go.Ground.phase }, { on := 10, ground := Go.Ground.phase }], guard := none }) rfl (by rfl) (by go_simp <;> with_reducible rfl) ?_
              simp only [Act.put, List.setIfInBounds_toArray, List.set_cons_zero, List.set_cons_succ]
              refine any_one 12 (by kernel_rfl) ?_
              refine op_value (.pointer (some ⟨R, 1, none⟩)) (i := 12) (oi := { dst := some 45, op := Go.Op.fieldAddr 39 (Go.Operand.tmp 44) 1, type := 0, pos := "ref.go:93", after := #[{ on := 11, ground := Go.Ground.data }, { on := 0, ground := Go.Ground.phase }, { on := 1, ground := Go.Ground.phase }, { on := 2, ground := Go.Ground.phase }, { on := 3, ground := Go.Ground.phase }, { on := 4, ground := Go.Ground.phase }, { on := 5, ground := Go.Ground.phase }, { on := 6, ground := Go.Ground.phase }, { on := 7, ground := Go.Ground.phase }, { on := 8, ground := Go.Ground.phase }, { on := 9, ground := Go.Ground.phase }, { on := 10, ground := Go.Ground.phase }], guard := none }) rfl (by rfl) (by go_simp <;> with_reducible rfl) ?_
              simp only [Act.put, List.setIfInBounds_toArray, List.set_cons_zero, List.set_cons_succ]
              refine any_one 13 (by kernel_rfl) ?_
              refine op_effect (i := 13) (oi := { dst := none, op := Go.Op.store 37 (Go.Operand.tmp 45) (Go.Operand.tmp 43), type := 0, pos := "ref.go:93", after := #[{ on := 12, ground := Go.Ground.data }, { on := 10, ground := Go.Ground.data }, { on := 10, ground := Go.Ground.chain }, { on := 0, ground := Go.Ground.phase }, { on := 1, ground := Go.Ground.phase }, { on := 2, ground := Go.Ground.phase }, { on := 3, ground := Go.Ground.phase }, { on := 4, ground := Go.Ground.phase }, { on := 5, ground := Go.Ground.phase }, { on := 6, ground := Go.Ground.phase }, { on := 7, ground := Go.Ground.phase }, { on := 8, ground := Go.Ground.phase }, { on := 9, ground := Go.Ground.phase }, { on := 10, ground := Go.Ground.phase }], guard := none }) rfl (by rfl) (by go_simp <;> with_reducible rfl) ?_
              simp only [Act.put]
              refine wpAnyIn_done (by kernel_rfl) ?_ _
              go_wp2
              go_ret
              first | exact ⟨_, rfl, P1.out, P2.out, P3.out⟩ | exact ⟨rfl, _, P1.out, P2.out, P3.out⟩
            · -- row, load
              refine op_value (.slice (some ⟨x1.heap.size, 0, none⟩) 1 1) (i := 9) (oi := { dst := some 42, op := Go.Op.buildSlice 37 1 #[(0, Go.Operand.tmp 41)], type := 37, pos := "ref.go:93", after := #[{ on := 8, ground := Go.Ground.data }], guard := none }) rfl (by rfl) (by go_simp <;> with_reducible rfl) ?_
              simp only [Act.put, List.setIfInBounds_toArray, List.set_cons_zero, List.set_cons_succ]
              refine any_one 4 (by kernel_rfl) ?_
              refine op_value (.slice la s.ws.length lc) (i := 4) (oi := { dst := some 37, op := Go.Op.load 37 (Go.Operand.tmp 36), type := 37, pos := "ref.go:93", after := #[{ on := 3, ground := Go.Ground.data }], guard := none }) rfl (by rfl) (by go_simp <;> with_reducible rfl) ?_
              simp only [Act.put, List.setIfInBounds_toArray, List.set_cons_zero, List.set_cons_succ]
              refine any_one 10 (by kernel_rfl) ?_
              refine op_value (.slice (some ⟨G, 0, none⟩) (s.ws.length + 1) c') (i := 10) (oi := { dst := some 43, op := Go.Op.call { callee := Go.Callee.builtin Go.Builtin.append, args := #[Go.Operand.tmp 37, Go.Operand.tmp 42], argTypes := #[37, 37] }, type := 37, pos := "ref.go:93", after := #[{ on := 4, ground := Go.Ground.data }, { on := 9, ground := Go.Ground.data }, { on := 7, ground := Go.Ground.chain }], guard := none }) rfl (by rfl) (exec_appendW (t := 37) rfl rfl rfl HR.out) ?_
              simp only [Act.put, List.setIfInBounds_toArray, List.set_cons_zero, List.set_cons_succ]
              refine any_one 11 (by kernel_rfl) ?_
              refine op_value (.pointer (some ⟨R, 0, none⟩)) (i := 11) (oi := { dst := some 44, op := Go.Op.nilCheck (Go.Operand.tmp 33), type := 0, pos := "ref.go:93", after := #[{ on := 0, ground := Go.Ground.data }, { on := 0, ground := Go.Ground.phase }, { on := 1, ground := Go.Ground.phase }, { on := 2, ground := Go.Ground.phase }, { on := 3, ground := Go.Ground.phase }, { on := 4, ground := Go.Ground.phase }, { on := 5, ground := Go.Ground.phase }, { on := 6, ground := Go.Ground.phase }, { on := 7, ground := Go.Ground.phase }, { on := 8, ground := Go.Ground.phase }, { on := 9, ground := Go.Ground.phase }, { on := 10, ground := Go.Ground.phase }], guard := none }) rfl (by rfl) (by go_simp <;> with_reducible rfl) ?_
              simp only [Act.put, List.setIfInBounds_toArray, List.set_cons_zero, List.set_cons_succ]
              refine any_one 12 (by kernel_rfl) ?_
              refine op_value (.pointer (some ⟨R, 1, none⟩)) (i := 12) (oi := { dst := some 45, op := Go.Op.fieldAddr 39 (Go.Operand.tmp 44) 1, type := 0, pos := "ref.go:93", after := #[{ on := 11, ground := Go.Ground.data }, { on := 0, ground := Go.Ground.phase }, { on := 1, ground := Go.Ground.phase }, { on := 2, ground := Go.Ground.phase }, { on := 3, ground := Go.Ground.phase }, { on := 4, ground := Go.Ground.phase }, { on := 5, ground := Go.Ground.phase }, { on := 6, ground := Go.Ground.phase }, { on := 7, ground := Go.Ground.phase }, { on := 8, ground := Go.Ground.phase }, { on := 9, ground := Go.Ground.phase }, { on := 10, ground := Go.Ground.phase }], guard := none }) rfl (by rfl) (by go_simp <;> with_reducible rfl) ?_
              simp only [Act.put, List.setIfInBounds_toArray, List.set_cons_zero, List.set_cons_succ]
              refine any_one 13 (by kernel_rfl) ?_
              refine op_effect (i := 13) (oi := { dst := none, op := Go.Op.store 37 (Go.Operand.tmp 45) (Go.Operand.tmp 43), type := 0, pos := "ref.go:93", after := #[{ on := 12, ground := Go.Ground.data }, { on := 10, ground := Go.Ground.data }, { on := 10, ground := Go.Ground.chain }, { on := 0, ground := Go.Ground.phase }, { on := 1, ground := Go.Ground.phase }, { on := 2, ground := Go.Ground.phase }, { on := 3, ground := Go.Ground.phase }, { on := 4, ground := Go.Ground.phase }, { on := 5, ground := Go.Ground.phase }, { on := 6, ground := Go.Ground.phase }, { on := 7, ground := Go.Ground.phase }, { on := 8, ground := Go.Ground.phase }, { on := 9, ground := Go.Ground.phase }, { on := 10, ground := Go.Ground.phase }], guard := none }) rfl (by rfl) (by go_simp <;> with_reducible rfl) ?_
              simp only [Act.put]
              refine wpAnyIn_done (by kernel_rfl) ?_ _
              go_wp2
              go_ret
              first | exact ⟨_, rfl, P1.out, P2.out, P3.out⟩ | exact ⟨rfl, _, P1.out, P2.out, P3.out⟩
    · have e1 : whyW n s i b = 1 := by unfold whyW; rw [if_neg hde, if_pos hi]
      have e2 : writeD n s i b = s := by unfold writeD; rw [if_neg (by rw [e1]; decide)]
      rw [e1, e2]
      have FIN : Hid (RDo w w m m n s) := ⟨H.out, ROnly.refl m w, RM.next.refl m _⟩
      rcases Int.lt_or_le i 0 with g1 | g1
      · clear hs hk hde e1 e2 hi hde'
        go_enter Try.func25, Try.ntmps25
        go_wp2
        go_ret
        first | exact ⟨m, rfl, FIN.out⟩ | exact ⟨rfl, m, FIN.out⟩
      · have g2 : (n : Int) ≤ i := by omega
        have g3 : ¬ i < 0 := by omega
        clear hs hk hde e1 e2 hi hde' g1
        go_enter Try.func25, Try.ntmps25
        go_wp2
        go_ret
        first | exact ⟨m, rfl, FIN.out⟩ | exact ⟨rfl, m, FIN.out⟩
end Go.Proofs.Ytnpebdnfdbeiaaa
