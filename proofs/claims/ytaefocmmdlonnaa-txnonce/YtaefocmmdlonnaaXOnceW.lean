/- The law TxnOnce. -/
import Derived.Test.YtaefocmmdlonnaaXKnown
import Derived.Test.YtaefocmmdlonnaaXCount
import Derived.Test.YtaefocmmdlonnaaXFrame
import Derived.Test.YtaefocmmdlonnaaXRtrue
import Derived.Test.YtaefocmmdlonnaaXRfalse
import Derived.Test.YtaefocmmdlonnaaXSa
import Derived.Test.YtaefocmmdlonnaaXSb
import Derived.Test.YtaefocmmdlonnaaXSc
import Derived.Test.YtaefocmmdlonnaaXSd
import Derived.Test.YtaefocmmdlonnaaXSe
import Derived.Deep.RegionLaw
namespace Go.Proofs.Ytaefocmmdlonnaa
open Go.RowKit Go.Shelf
attribute [local go_sem] Oper.semAt_some
set_option linter.unusedVariables false

/-- An append whose run is known, as one step of a region that draws. -/
theorem step_append_known {P : Program} {ops : Array Oper} {o : Oper} {a : Act} {w : World} {K : Act → World → Prop} {Q : Exit → Act → World → Prop} {E : Prop} (hgd : o.guard = none) (s x : Operand) (t : TypeId)
    (ho : o.op = .call { callee := .builtin .append, args := #[s, x], argTypes := #[t, t] }) (vs vx v' : Value) (w' : World) (hs : a.eval s = vs) (hx : a.eval x = vx)
    (hr : (Builtin.append_ #[t, t] o.type #[vs, vx]).run P w = .ok v' w') (hK : K (a.put o.dst v') w') : if Region.wanted o (yielded ops a.tmps) = true then Oper.wp P o a w K Q else E := by
  have hw : Region.wanted o (yielded ops a.tmps) = true := by simp [Region.wanted, hgd]
  rw [if_pos hw]
  unfold Oper.wp
  simp [execOp, ho, resolve, invoke, builtin, hs, hx, hr, Result.andThen]
  exact hK
/-- One transfer more in the law's own list. -/
theorem own_more {w X : World} {a : Option Addr} {c : Nat} {l : List TxnD} (hb : Below w.heap.size w X) (h : X.ownsRow w.heap.size 40 7 (.slice a l.length c) l.length (flat TxnD.cells l)) (hl : l.length ≤ 200) (t : TxnD) :
    ∃ a' c' Z, (Builtin.append_ #[37, 37] 37 #[.slice a l.length c, .slice (some ⟨X.heap.size, 0, none⟩) 1 1]).run Try.prog (X.alloc (.cells t.cells.toArray 40)) = .ok (.slice a' (l.length + 1) c') Z ∧ Below w.heap.size w Z ∧ Z.ownsRow w.heap.size 40 7 (.slice a' (l ++ [t]).length c') (l ++ [t]).length (flat TxnD.cells (l ++ [t])) := by
  have bX : Below X.heap.size X (X.alloc (.cells t.cells.toArray 40)) := (Below.refl _ X).alloc (Nat.le_refl _) _
  have h1 := owns_kept h (fun g e => bX.block g (row_kind h e).2.1)
  obtain ⟨v', Z, hr, q1, q2⟩ := run_append_txns (X.alloc (.cells t.cells.toArray 40)) w.heap.size _ l h1 (some ⟨X.heap.size, 0, none⟩) 1 1 [t] ⟨rfl, .inr ⟨X.heap.size, 0, rfl, by simp, fun i hi j v hv => by
    obtain rfl : i = 0 := by simpa using hi
    rw [Nat.zero_mul, Nat.zero_add]
    try rw [Nat.zero_add]
    simp only [World.cell?, heap_alloc_new]
    simpa using hv⟩⟩ (fun e => by cases e) (by omega) (by have := hb.size; have := bX.size; omega)
  obtain ⟨a', c', e, _⟩ := row_form q1
  subst e
  have el : (l ++ [t]).length = l.length + 1 := by simp
  refine ⟨a', c', Z, hr, ?_, ?_⟩
  · exact (hb.trans (bX.mono hb.size)).grown q2 (by have := hb.size; have := bX.size; omega) (fun k e => (row_kind h1 e).1)
  · rw [el]; exact q1
theorem exec_appN {P : Program} {o : Oper} {a : Act} {w w' : World} {v u x : Value} (s y : Operand) (t : TypeId) (ho : o.op = .call { callee := .builtin .append, args := #[s, y], argTypes := #[t, t] }) (hs : a.eval s = u) (hx : a.eval y = x) (hr : (Builtin.append_ #[t, t] o.type #[u, x]).run P w = .ok v w') : (execOp a.eval o).run P w = .ok (.value v) w' := by
  unfold execOp
  simp only [ho, resolve, invoke, builtin, Sem.run_bind, Sem.run_pure, Result.andThen_ok, List.map_toArray, List.map_cons, List.map_nil, hs, hx, hr]
theorem meas_lt (N j : Nat) (h : j < N) : N - (intOf (.int .i64 ((j + 1 : Nat) : Int))).toNat < N - (intOf (.int .i64 (j : Int))).toNat := by
  simp only [intOf]
  omega
theorem next_data (c : CmdV) (y : Int) : (nextC c y).1.data = .slice none 0 0 := by
  unfold nextC
  split
  · rfl
  · split
    · rfl
    · split <;> rfl
theorem next_id (c : CmdV) (y : Int) (h : (nextC c y).2 = true) : (nextC c y).1.id = c.id := by
  unfold nextC at h ⊢
  split
  · rename_i h1; rw [if_pos h1] at h; cases h
  · rename_i h1
    rw [if_neg h1] at h
    split
    · rfl
    · rename_i h2
      rw [if_neg h2] at h
      split
      · rfl
      · rename_i h3; rw [if_neg h3] at h; cases h
set_option maxRecDepth 100000 in
set_option maxHeartbeats 4000000 in
theorem txnOnce_walk (me0 sh0 : Int) (a : Option Addr) (len cap : Nat) (ts : List TxnD) (ya : Option Addr) (yn yc : Nat) (ys : List Int) (w : World) (hm0 : -9223372036854775808 ≤ me0 ∧ me0 ≤ 9223372036854775807) (hs0 : -9223372036854775808 ≤ sh0 ∧ sh0 ≤ 9223372036854775807)
    (h : RecsAt TxnD.cells 7 w a len ts) (hln : len ≤ maxLen) (hy : IntsX w ya yn ys) (hyn : yn ≤ maxLen) :
    Calls Try.prog 5 #[.int .i64 me0, .int .i64 sh0, .slice a len cap, .slice ya yn yc] w fun e w' => e = .returned (.bool true) ∧ Below w.heap.size w w' := by
  obtain ⟨sh, esh⟩ : ∃ sh : Int, 1 + sh0 % 3 = sh := ⟨_, rfl⟩
  have hsh : 1 ≤ sh ∧ sh ≤ 3 := by omega
  obtain ⟨me, eme⟩ : ∃ me : Int, 1 + me0 % sh = me := ⟨_, rfl⟩
  have hme : 1 ≤ me ∧ me ≤ sh := by
    have := Int.emod_nonneg me0 (show sh ≠ 0 by omega)
    have := Int.emod_lt_of_pos me0 (show 0 < sh by omega)
    omega
  have C1 := count_any sh0 3 w hs0.1 hs0.2 (by omega) (by omega)
  have C2 := count_any me0 sh w hm0.1 hm0.2 (by omega) (by omega)
  have w1 : wrap64 (1 + sh0 % 3) = sh := by rw [esh]; unfold wrap64; omega
  have w2 : wrap64 (1 + me0 % sh) = me := by rw [eme]; unfold wrap64; omega
  have HB : Hid (1 ≤ me ∧ me ≤ sh ∧ sh ≤ 3) := ⟨hme.1, hme.2, hsh.2⟩
  have H : Hid (RecsAt TxnD.cells 7 w a len ts) := h
  have HY : Hid (IntsX w ya yn ys) := hy
  have HLM : Hid (len ≤ maxLen) := hln
  have HYM : Hid (yn ≤ maxLen) := hyn
  clear hm0 hs0 hsh hme h hy hln hyn eme esh
  generalize sh0 % 3 = q1 at *
  generalize me0 % sh = q2 at *
  go_enter Try.func5, Try.ntmps5
  go_wp2_with fail
  refine C1.mono ?_
  rintro e w' ⟨rfl, rfl⟩
  clear C1
  go_wp2_with fail
  refine C2.mono ?_
  rintro e w' ⟨rfl, rfl⟩
  clear C2
  by_cases hl : 100 < (len : Int)
  · have HK := knownX_any w'
    go_wp2_with fail
    refine HK.mono ?_
    rintro e w3 ⟨rfl, b3⟩
    go_wp2
    go_ret
    exact ⟨rfl, b3⟩
  · have HL : Hid (len ≤ 100) := by show len ≤ 100; omega
    have hlf : decide ((100 : Int) < (len : Int)) = false := decide_eq_false hl
    have ELN : Hid (len = ts.length) := H.out.1
    clear hl
    go_wp2_with fail
    clear hlf
    go_loopw [9, 10] (fun v i wr => ∃ (k : Nat) (va : Option Addr) (vc : Nat), k ≤ len ∧ v = .slice va k vc ∧ i = .int .i64 (k : Int) ∧ Hid (Below w'.heap.size w' wr) ∧ Hid (wr.ownsRow w'.heap.size 40 7 (.slice va (ts.take k).length vc) (ts.take k).length (flat TxnD.cells (ts.take k)))) (fun _ i _ => len - (intOf i).toNat)
    case atStart => exact ⟨0, none, 0, Nat.zero_le _, rfl, rfl, Below.refl _ _, World.ownsRow_nil _ _ _ _⟩
    case round =>
      obtain ⟨k, va, vc, hk, rfl, rfl, hb, ho⟩ := hrel
      by_cases hlt : k < len
      · have hk2 : k < ts.length := by rw [← ELN.out]; exact hlt
        obtain ⟨b, off, rfl, hc⟩ := (H.out.at hk2)
        have hbk := World.block_lt_of_cell? w' _ (hc 0 _ rfl)
        have HT : Hid (ts.take (k + 1) = ts.take k ++ [ts[k]'hk2]) := List.take_succ_eq_append_getElem hk2
        have HTL : Hid ((ts.take k).length = k) := by show _ = _; rw [List.length_take]; omega
        obtain ⟨a2, c2, Z, hrun, hbZ, hoZ⟩ := own_more (X := wr.drew) hb.out.drew ho.out (by rw [HTL.out]; have := HL.out; omega) (ts[k]'hk2)
        generalize ts[k]'hk2 = t at hc HT hrun hoZ
        obtain ⟨tid, tfr, tky, tto, tn, td, tw⟩ := t
        have CC : Hid (∀ W, Below w'.heap.size w' W → ∀ j v, (TxnD.cells ⟨tid, tfr, tky, tto, tn, td, tw⟩)[j]? = some v → W.cell? ⟨b, off + k * 7 + j, none⟩ = some v) := fun W hW j v hv => by
          rw [hW.cell (p := ⟨b, off + k * 7 + j, none⟩) hbk]
          exact hc j v hv
        have HBr : Hid (Below w'.heap.size w' wr) := hb
        have HLT : Hid (k < len) := hlt
        have HRun : Hid _ := hrun
        have HBZ : Hid (Below w'.heap.size w' Z) := hbZ
        have HOZ : Hid _ := hoZ
        rw [HTL.out] at HRun
        clear hc hrun hbZ hoZ hbk hk2
        go_wp2_with fail
        simp only [TxnD.cells] at HRun
        refine wp_region_held_drew (S := fun W => Below w'.heap.size w' W) (by kernel_rfl) HBr.out.drew (fun hHeld => ?_)
        refine take_run (i := 0) (oi := { dst := some 35, op := Go.Op.move (Go.Operand.tmp 9), type := 37, pos := "law.go:287", after := #[], guard := none }) (v := .slice va k vc) rfl (by kernel_rfl) (by kernel_rfl) (by kernel_rfl) (fun _ _ _ h => h) (by rfl) ?_ hHeld ?_
        · (intro wq hSw; go_simp <;> with_reducible rfl)
        try simp only [Act.put, List.setIfInBounds_toArray, List.set_cons_zero, List.set_cons_succ]
        refine take_run (i := 1) (oi := { dst := some 36, op := Go.Op.move (Go.Operand.tmp 2), type := 22, pos := "law.go:287", after := #[], guard := none }) (v := .slice (some ⟨b, off, none⟩) len cap) rfl (by kernel_rfl) (by kernel_rfl) (by kernel_rfl) (fun _ _ _ h => h) (by rfl) ?_ hHeld ?_
        · (intro wq hSw; go_simp <;> with_reducible rfl)
        try simp only [Act.put, List.setIfInBounds_toArray, List.set_cons_zero, List.set_cons_succ]
        refine take_run (i := 2) (oi := { dst := some 37, op := Go.Op.move (Go.Operand.tmp 10), type := 3, pos := "law.go:287", after := #[], guard := none }) (v := .int .i64 (k : Int)) rfl (by kernel_rfl) (by kernel_rfl) (by kernel_rfl) (fun _ _ _ h => h) (by rfl) ?_ hHeld ?_
        · (intro wq hSw; go_simp <;> with_reducible rfl)
        try simp only [Act.put, List.setIfInBounds_toArray, List.set_cons_zero, List.set_cons_succ]
        refine take_run (i := 3) (oi := { dst := some 38, op := Go.Op.indexAddr 22 (Go.Operand.tmp 36) (Go.Operand.tmp 37), type := 0, pos := "law.go:287", after := #[{ on := 1, ground := Go.Ground.data }, { on := 2, ground := Go.Ground.data }], guard := none }) (v := .pointer (some ⟨b, off + k * 7, none⟩)) rfl (by kernel_rfl) (by kernel_rfl) (by kernel_rfl) (fun _ _ _ h => h) (by rfl) ?_ hHeld ?_
        · (intro wq hSw; have hlt2 := HLT.out; go_simp <;> first | with_reducible rfl | (simp [hlt2]; done))
        try simp only [Act.put, List.setIfInBounds_toArray, List.set_cons_zero, List.set_cons_succ]
        refine take_run (i := 4) (oi := { dst := some 39, op := Go.Op.fieldAddr 39 (Go.Operand.tmp 38) 0, type := 0, pos := "law.go:287", after := #[{ on := 3, ground := Go.Ground.data }], guard := none }) (v := .pointer (some ⟨b, off + k * 7, none⟩)) rfl (by kernel_rfl) (by kernel_rfl) (by kernel_rfl) (fun _ _ _ h => h) (by rfl) ?_ hHeld ?_
        · (intro wq hSw; go_simp <;> with_reducible rfl)
        try simp only [Act.put, List.setIfInBounds_toArray, List.set_cons_zero, List.set_cons_succ]
        refine take_run (i := 5) (oi := { dst := some 40, op := Go.Op.load 9 (Go.Operand.tmp 39), type := 9, pos := "law.go:287", after := #[{ on := 4, ground := Go.Ground.data }], guard := none }) (v := .string tid) rfl (by kernel_rfl) (by kernel_rfl) (by kernel_rfl) (fun _ _ _ h => h) (by rfl) ?_ hHeld ?_
        · (intro wq hSw; have yq := CC.out wq hSw 0 _ rfl; simp only [Nat.add_zero] at yq; go_simp <;> with_reducible rfl)
        try simp only [Act.put, List.setIfInBounds_toArray, List.set_cons_zero, List.set_cons_succ]
        refine take_run (i := 6) (oi := { dst := some 41, op := Go.Op.move (Go.Operand.tmp 2), type := 22, pos := "law.go:287", after := #[], guard := none }) (v := .slice (some ⟨b, off, none⟩) len cap) rfl (by kernel_rfl) (by kernel_rfl) (by kernel_rfl) (fun _ _ _ h => h) (by rfl) ?_ hHeld ?_
        · (intro wq hSw; go_simp <;> with_reducible rfl)
        try simp only [Act.put, List.setIfInBounds_toArray, List.set_cons_zero, List.set_cons_succ]
        refine take_run (i := 7) (oi := { dst := some 42, op := Go.Op.move (Go.Operand.tmp 10), type := 3, pos := "law.go:287", after := #[], guard := none }) (v := .int .i64 (k : Int)) rfl (by kernel_rfl) (by kernel_rfl) (by kernel_rfl) (fun _ _ _ h => h) (by rfl) ?_ hHeld ?_
        · (intro wq hSw; go_simp <;> with_reducible rfl)
        try simp only [Act.put, List.setIfInBounds_toArray, List.set_cons_zero, List.set_cons_succ]
        refine take_run (i := 8) (oi := { dst := some 43, op := Go.Op.indexAddr 22 (Go.Operand.tmp 41) (Go.Operand.tmp 42), type := 0, pos := "law.go:287", after := #[{ on := 6, ground := Go.Ground.data }, { on := 7, ground := Go.Ground.data }], guard := none }) (v := .pointer (some ⟨b, off + k * 7, none⟩)) rfl (by kernel_rfl) (by kernel_rfl) (by kernel_rfl) (fun _ _ _ h => h) (by rfl) ?_ hHeld ?_
        · (intro wq hSw; have hlt2 := HLT.out; go_simp <;> first | with_reducible rfl | (simp [hlt2]; done))
        try simp only [Act.put, List.setIfInBounds_toArray, List.set_cons_zero, List.set_cons_succ]
        refine take_run (i := 9) (oi := { dst := some 44, op := Go.Op.fieldAddr 39 (Go.Operand.tmp 43) 1, type := 0, pos := "law.go:287", after := #[{ on := 8, ground := Go.Ground.data }], guard := none }) (v := .pointer (some ⟨b, off + k * 7 + 1, none⟩)) rfl (by kernel_rfl) (by kernel_rfl) (by kernel_rfl) (fun _ _ _ h => h) (by rfl) ?_ hHeld ?_
        · (intro wq hSw; go_simp <;> with_reducible rfl)
        try simp only [Act.put, List.setIfInBounds_toArray, List.set_cons_zero, List.set_cons_succ]
        refine take_run (i := 10) (oi := { dst := some 45, op := Go.Op.load 9 (Go.Operand.tmp 44), type := 9, pos := "law.go:287", after := #[{ on := 9, ground := Go.Ground.data }], guard := none }) (v := .string tfr) rfl (by kernel_rfl) (by kernel_rfl) (by kernel_rfl) (fun _ _ _ h => h) (by rfl) ?_ hHeld ?_
        · (intro wq hSw; have yq := CC.out wq hSw 1 _ rfl; (try dsimp only at yq); go_simp <;> with_reducible rfl)
        try simp only [Act.put, List.setIfInBounds_toArray, List.set_cons_zero, List.set_cons_succ]
        refine take_run (i := 11) (oi := { dst := some 46, op := Go.Op.move (Go.Operand.tmp 2), type := 22, pos := "law.go:287", after := #[], guard := none }) (v := .slice (some ⟨b, off, none⟩) len cap) rfl (by kernel_rfl) (by kernel_rfl) (by kernel_rfl) (fun _ _ _ h => h) (by rfl) ?_ hHeld ?_
        · (intro wq hSw; go_simp <;> with_reducible rfl)
        try simp only [Act.put, List.setIfInBounds_toArray, List.set_cons_zero, List.set_cons_succ]
        refine take_run (i := 12) (oi := { dst := some 47, op := Go.Op.move (Go.Operand.tmp 10), type := 3, pos := "law.go:287", after := #[], guard := none }) (v := .int .i64 (k : Int)) rfl (by kernel_rfl) (by kernel_rfl) (by kernel_rfl) (fun _ _ _ h => h) (by rfl) ?_ hHeld ?_
        · (intro wq hSw; go_simp <;> with_reducible rfl)
        try simp only [Act.put, List.setIfInBounds_toArray, List.set_cons_zero, List.set_cons_succ]
        refine take_run (i := 13) (oi := { dst := some 48, op := Go.Op.indexAddr 22 (Go.Operand.tmp 46) (Go.Operand.tmp 47), type := 0, pos := "law.go:287", after := #[{ on := 11, ground := Go.Ground.data }, { on := 12, ground := Go.Ground.data }], guard := none }) (v := .pointer (some ⟨b, off + k * 7, none⟩)) rfl (by kernel_rfl) (by kernel_rfl) (by kernel_rfl) (fun _ _ _ h => h) (by rfl) ?_ hHeld ?_
        · (intro wq hSw; have hlt2 := HLT.out; go_simp <;> first | with_reducible rfl | (simp [hlt2]; done))
        try simp only [Act.put, List.setIfInBounds_toArray, List.set_cons_zero, List.set_cons_succ]
        refine take_run (i := 14) (oi := { dst := some 49, op := Go.Op.fieldAddr 39 (Go.Operand.tmp 48) 2, type := 0, pos := "law.go:287", after := #[{ on := 13, ground := Go.Ground.data }], guard := none }) (v := .pointer (some ⟨b, off + k * 7 + 2, none⟩)) rfl (by kernel_rfl) (by kernel_rfl) (by kernel_rfl) (fun _ _ _ h => h) (by rfl) ?_ hHeld ?_
        · (intro wq hSw; go_simp <;> with_reducible rfl)
        try simp only [Act.put, List.setIfInBounds_toArray, List.set_cons_zero, List.set_cons_succ]
        refine take_run (i := 15) (oi := { dst := some 50, op := Go.Op.load 9 (Go.Operand.tmp 49), type := 9, pos := "law.go:287", after := #[{ on := 14, ground := Go.Ground.data }], guard := none }) (v := .string tky) rfl (by kernel_rfl) (by kernel_rfl) (by kernel_rfl) (fun _ _ _ h => h) (by rfl) ?_ hHeld ?_
        · (intro wq hSw; have yq := CC.out wq hSw 2 _ rfl; (try dsimp only at yq); go_simp <;> with_reducible rfl)
        try simp only [Act.put, List.setIfInBounds_toArray, List.set_cons_zero, List.set_cons_succ]
        refine take_run (i := 16) (oi := { dst := some 51, op := Go.Op.move (Go.Operand.tmp 2), type := 22, pos := "law.go:287", after := #[], guard := none }) (v := .slice (some ⟨b, off, none⟩) len cap) rfl (by kernel_rfl) (by kernel_rfl) (by kernel_rfl) (fun _ _ _ h => h) (by rfl) ?_ hHeld ?_
        · (intro wq hSw; go_simp <;> with_reducible rfl)
        try simp only [Act.put, List.setIfInBounds_toArray, List.set_cons_zero, List.set_cons_succ]
        refine take_run (i := 17) (oi := { dst := some 52, op := Go.Op.move (Go.Operand.tmp 10), type := 3, pos := "law.go:287", after := #[], guard := none }) (v := .int .i64 (k : Int)) rfl (by kernel_rfl) (by kernel_rfl) (by kernel_rfl) (fun _ _ _ h => h) (by rfl) ?_ hHeld ?_
        · (intro wq hSw; go_simp <;> with_reducible rfl)
        try simp only [Act.put, List.setIfInBounds_toArray, List.set_cons_zero, List.set_cons_succ]
        refine take_run (i := 18) (oi := { dst := some 53, op := Go.Op.indexAddr 22 (Go.Operand.tmp 51) (Go.Operand.tmp 52), type := 0, pos := "law.go:287", after := #[{ on := 16, ground := Go.Ground.data }, { on := 17, ground := Go.Ground.data }], guard := none }) (v := .pointer (some ⟨b, off + k * 7, none⟩)) rfl (by kernel_rfl) (by kernel_rfl) (by kernel_rfl) (fun _ _ _ h => h) (by rfl) ?_ hHeld ?_
        · (intro wq hSw; have hlt2 := HLT.out; go_simp <;> first | with_reducible rfl | (simp [hlt2]; done))
        try simp only [Act.put, List.setIfInBounds_toArray, List.set_cons_zero, List.set_cons_succ]
        refine take_run (i := 19) (oi := { dst := some 54, op := Go.Op.fieldAddr 39 (Go.Operand.tmp 53) 3, type := 0, pos := "law.go:287", after := #[{ on := 18, ground := Go.Ground.data }], guard := none }) (v := .pointer (some ⟨b, off + k * 7 + 3, none⟩)) rfl (by kernel_rfl) (by kernel_rfl) (by kernel_rfl) (fun _ _ _ h => h) (by rfl) ?_ hHeld ?_
        · (intro wq hSw; go_simp <;> with_reducible rfl)
        try simp only [Act.put, List.setIfInBounds_toArray, List.set_cons_zero, List.set_cons_succ]
        refine take_run (i := 20) (oi := { dst := some 55, op := Go.Op.load 9 (Go.Operand.tmp 54), type := 9, pos := "law.go:287", after := #[{ on := 19, ground := Go.Ground.data }], guard := none }) (v := .string tto) rfl (by kernel_rfl) (by kernel_rfl) (by kernel_rfl) (fun _ _ _ h => h) (by rfl) ?_ hHeld ?_
        · (intro wq hSw; have yq := CC.out wq hSw 3 _ rfl; (try dsimp only at yq); go_simp <;> with_reducible rfl)
        try simp only [Act.put, List.setIfInBounds_toArray, List.set_cons_zero, List.set_cons_succ]
        refine take_run (i := 21) (oi := { dst := some 56, op := Go.Op.move (Go.Operand.tmp 2), type := 22, pos := "law.go:287", after := #[], guard := none }) (v := .slice (some ⟨b, off, none⟩) len cap) rfl (by kernel_rfl) (by kernel_rfl) (by kernel_rfl) (fun _ _ _ h => h) (by rfl) ?_ hHeld ?_
        · (intro wq hSw; go_simp <;> with_reducible rfl)
        try simp only [Act.put, List.setIfInBounds_toArray, List.set_cons_zero, List.set_cons_succ]
        refine take_run (i := 22) (oi := { dst := some 57, op := Go.Op.move (Go.Operand.tmp 10), type := 3, pos := "law.go:287", after := #[], guard := none }) (v := .int .i64 (k : Int)) rfl (by kernel_rfl) (by kernel_rfl) (by kernel_rfl) (fun _ _ _ h => h) (by rfl) ?_ hHeld ?_
        · (intro wq hSw; go_simp <;> with_reducible rfl)
        try simp only [Act.put, List.setIfInBounds_toArray, List.set_cons_zero, List.set_cons_succ]
        refine take_run (i := 23) (oi := { dst := some 58, op := Go.Op.indexAddr 22 (Go.Operand.tmp 56) (Go.Operand.tmp 57), type := 0, pos := "law.go:287", after := #[{ on := 21, ground := Go.Ground.data }, { on := 22, ground := Go.Ground.data }], guard := none }) (v := .pointer (some ⟨b, off + k * 7, none⟩)) rfl (by kernel_rfl) (by kernel_rfl) (by kernel_rfl) (fun _ _ _ h => h) (by rfl) ?_ hHeld ?_
        · (intro wq hSw; have hlt2 := HLT.out; go_simp <;> first | with_reducible rfl | (simp [hlt2]; done))
        try simp only [Act.put, List.setIfInBounds_toArray, List.set_cons_zero, List.set_cons_succ]
        refine take_run (i := 24) (oi := { dst := some 59, op := Go.Op.fieldAddr 39 (Go.Operand.tmp 58) 4, type := 0, pos := "law.go:287", after := #[{ on := 23, ground := Go.Ground.data }], guard := none }) (v := .pointer (some ⟨b, off + k * 7 + 4, none⟩)) rfl (by kernel_rfl) (by kernel_rfl) (by kernel_rfl) (fun _ _ _ h => h) (by rfl) ?_ hHeld ?_
        · (intro wq hSw; go_simp <;> with_reducible rfl)
        try simp only [Act.put, List.setIfInBounds_toArray, List.set_cons_zero, List.set_cons_succ]
        refine take_run (i := 25) (oi := { dst := some 60, op := Go.Op.load 2 (Go.Operand.tmp 59), type := 2, pos := "law.go:287", after := #[{ on := 24, ground := Go.Ground.data }], guard := none }) (v := .int .i64 tn) rfl (by kernel_rfl) (by kernel_rfl) (by kernel_rfl) (fun _ _ _ h => h) (by rfl) ?_ hHeld ?_
        · (intro wq hSw; have yq := CC.out wq hSw 4 _ rfl; (try dsimp only at yq); go_simp <;> with_reducible rfl)
        try simp only [Act.put, List.setIfInBounds_toArray, List.set_cons_zero, List.set_cons_succ]
        refine take_run (i := 26) (oi := { dst := some 61, op := Go.Op.move (Go.Operand.tmp 2), type := 22, pos := "law.go:287", after := #[], guard := none }) (v := .slice (some ⟨b, off, none⟩) len cap) rfl (by kernel_rfl) (by kernel_rfl) (by kernel_rfl) (fun _ _ _ h => h) (by rfl) ?_ hHeld ?_
        · (intro wq hSw; go_simp <;> with_reducible rfl)
        try simp only [Act.put, List.setIfInBounds_toArray, List.set_cons_zero, List.set_cons_succ]
        refine take_run (i := 27) (oi := { dst := some 62, op := Go.Op.move (Go.Operand.tmp 10), type := 3, pos := "law.go:287", after := #[], guard := none }) (v := .int .i64 (k : Int)) rfl (by kernel_rfl) (by kernel_rfl) (by kernel_rfl) (fun _ _ _ h => h) (by rfl) ?_ hHeld ?_
        · (intro wq hSw; go_simp <;> with_reducible rfl)
        try simp only [Act.put, List.setIfInBounds_toArray, List.set_cons_zero, List.set_cons_succ]
        refine take_run (i := 28) (oi := { dst := some 63, op := Go.Op.indexAddr 22 (Go.Operand.tmp 61) (Go.Operand.tmp 62), type := 0, pos := "law.go:287", after := #[{ on := 26, ground := Go.Ground.data }, { on := 27, ground := Go.Ground.data }], guard := none }) (v := .pointer (some ⟨b, off + k * 7, none⟩)) rfl (by kernel_rfl) (by kernel_rfl) (by kernel_rfl) (fun _ _ _ h => h) (by rfl) ?_ hHeld ?_
        · (intro wq hSw; have hlt2 := HLT.out; go_simp <;> first | with_reducible rfl | (simp [hlt2]; done))
        try simp only [Act.put, List.setIfInBounds_toArray, List.set_cons_zero, List.set_cons_succ]
        refine take_run (i := 29) (oi := { dst := some 64, op := Go.Op.fieldAddr 39 (Go.Operand.tmp 63) 5, type := 0, pos := "law.go:287", after := #[{ on := 28, ground := Go.Ground.data }], guard := none }) (v := .pointer (some ⟨b, off + k * 7 + 5, none⟩)) rfl (by kernel_rfl) (by kernel_rfl) (by kernel_rfl) (fun _ _ _ h => h) (by rfl) ?_ hHeld ?_
        · (intro wq hSw; go_simp <;> with_reducible rfl)
        try simp only [Act.put, List.setIfInBounds_toArray, List.set_cons_zero, List.set_cons_succ]
        refine take_run (i := 30) (oi := { dst := some 65, op := Go.Op.load 4 (Go.Operand.tmp 64), type := 4, pos := "law.go:287", after := #[{ on := 29, ground := Go.Ground.data }], guard := none }) (v := .bool td) rfl (by kernel_rfl) (by kernel_rfl) (by kernel_rfl) (fun _ _ _ h => h) (by rfl) ?_ hHeld ?_
        · (intro wq hSw; have yq := CC.out wq hSw 5 _ rfl; (try dsimp only at yq); go_simp <;> with_reducible rfl)
        try simp only [Act.put, List.setIfInBounds_toArray, List.set_cons_zero, List.set_cons_succ]
        refine take_run (i := 31) (oi := { dst := some 66, op := Go.Op.move (Go.Operand.tmp 2), type := 22, pos := "law.go:287", after := #[], guard := none }) (v := .slice (some ⟨b, off, none⟩) len cap) rfl (by kernel_rfl) (by kernel_rfl) (by kernel_rfl) (fun _ _ _ h => h) (by rfl) ?_ hHeld ?_
        · (intro wq hSw; go_simp <;> with_reducible rfl)
        try simp only [Act.put, List.setIfInBounds_toArray, List.set_cons_zero, List.set_cons_succ]
        refine take_run (i := 32) (oi := { dst := some 67, op := Go.Op.move (Go.Operand.tmp 10), type := 3, pos := "law.go:287", after := #[], guard := none }) (v := .int .i64 (k : Int)) rfl (by kernel_rfl) (by kernel_rfl) (by kernel_rfl) (fun _ _ _ h => h) (by rfl) ?_ hHeld ?_
        · (intro wq hSw; go_simp <;> with_reducible rfl)
        try simp only [Act.put, List.setIfInBounds_toArray, List.set_cons_zero, List.set_cons_succ]
        refine take_run (i := 33) (oi := { dst := some 68, op := Go.Op.indexAddr 22 (Go.Operand.tmp 66) (Go.Operand.tmp 67), type := 0, pos := "law.go:287", after := #[{ on := 31, ground := Go.Ground.data }, { on := 32, ground := Go.Ground.data }], guard := none }) (v := .pointer (some ⟨b, off + k * 7, none⟩)) rfl (by kernel_rfl) (by kernel_rfl) (by kernel_rfl) (fun _ _ _ h => h) (by rfl) ?_ hHeld ?_
        · (intro wq hSw; have hlt2 := HLT.out; go_simp <;> first | with_reducible rfl | (simp [hlt2]; done))
        try simp only [Act.put, List.setIfInBounds_toArray, List.set_cons_zero, List.set_cons_succ]
        refine take_run (i := 34) (oi := { dst := some 69, op := Go.Op.fieldAddr 39 (Go.Operand.tmp 68) 6, type := 0, pos := "law.go:287", after := #[{ on := 33, ground := Go.Ground.data }], guard := none }) (v := .pointer (some ⟨b, off + k * 7 + 6, none⟩)) rfl (by kernel_rfl) (by kernel_rfl) (by kernel_rfl) (fun _ _ _ h => h) (by rfl) ?_ hHeld ?_
        · (intro wq hSw; go_simp <;> with_reducible rfl)
        try simp only [Act.put, List.setIfInBounds_toArray, List.set_cons_zero, List.set_cons_succ]
        refine take_run (i := 35) (oi := { dst := some 70, op := Go.Op.load 25 (Go.Operand.tmp 69), type := 25, pos := "law.go:287", after := #[{ on := 34, ground := Go.Ground.data }], guard := none }) (v := .int .i64 tw) rfl (by kernel_rfl) (by kernel_rfl) (by kernel_rfl) (fun _ _ _ h => h) (by rfl) ?_ hHeld ?_
        · (intro wq hSw; have yq := CC.out wq hSw 6 _ rfl; (try dsimp only at yq); go_simp <;> with_reducible rfl)
        try simp only [Act.put, List.setIfInBounds_toArray, List.set_cons_zero, List.set_cons_succ]
        refine take_run (i := 36) (oi := { dst := some 71, op := Go.Op.build 40 #[(0, Go.Operand.tmp 40), (1, Go.Operand.tmp 45), (2, Go.Operand.tmp 50), (3, Go.Operand.tmp 55), (4, Go.Operand.tmp 60), (5, Go.Operand.tmp 65), (6, Go.Operand.tmp 70)], type := 40, pos := "law.go:287", after := #[{ on := 5, ground := Go.Ground.data }, { on := 10, ground := Go.Ground.data }, { on := 15, ground := Go.Ground.data }, { on := 20, ground := Go.Ground.data }, { on := 25, ground := Go.Ground.data }, { on := 30, ground := Go.Ground.data }, { on := 35, ground := Go.Ground.data }], guard := none }) (v := .agg #[.string tid, .string tfr, .string tky, .string tto, .int .i64 tn, .bool td, .int .i64 tw]) rfl (by kernel_rfl) (by kernel_rfl) (by kernel_rfl) (fun _ _ _ h => h) (by rfl) ?_ hHeld ?_
        · (intro wq hSw; go_simp <;> with_reducible rfl)
        try simp only [Act.put, List.setIfInBounds_toArray, List.set_cons_zero, List.set_cons_succ]
        refine take_make (i := 37) (oi := { dst := some 72, op := Go.Op.buildSlice 37 1 #[(0, Go.Operand.tmp 71)], type := 37, pos := "law.go:287", after := #[{ on := 36, ground := Go.Ground.data }], guard := none }) (v := .slice (some ⟨wr.heap.size, 0, none⟩) 1 1) (w' := wr.drew.alloc (.cells #[.string tid, .string tfr, .string tky, .string tto, .int .i64 tn, .bool td, .int .i64 tw] 40)) rfl (by kernel_rfl) (by rfl) (by go_simp <;> with_reducible rfl) (HBr.out.drew.alloc HBr.out.size _) ?_
        try simp only [Act.put, List.setIfInBounds_toArray, List.set_cons_zero, List.set_cons_succ]
        refine take_make (i := 38) (oi := { dst := some 73, op := Go.Op.call { callee := Go.Callee.builtin Go.Builtin.append, args := #[Go.Operand.tmp 35, Go.Operand.tmp 72], argTypes := #[37, 37] }, type := 37, pos := "law.go:287", after := #[{ on := 0, ground := Go.Ground.data }, { on := 37, ground := Go.Ground.data }], guard := none }) (v := .slice a2 (k + 1) c2) (w' := Z) rfl (by kernel_rfl) (by rfl) (exec_appN (.tmp 35) (.tmp 72) 37 rfl rfl rfl HRun.out) HBZ.out ?_
        try simp only [Act.put, List.setIfInBounds_toArray, List.set_cons_zero, List.set_cons_succ]
        refine take_run (i := 39) (oi := { dst := some 9, op := Go.Op.assign (Go.Operand.tmp 73), type := 37, pos := "law.go:287", after := #[{ on := 38, ground := Go.Ground.data }, { on := 38, ground := Go.Ground.chain }, { on := 0, ground := Go.Ground.phase }, { on := 1, ground := Go.Ground.phase }, { on := 2, ground := Go.Ground.phase }, { on := 3, ground := Go.Ground.phase }, { on := 4, ground := Go.Ground.phase }, { on := 5, ground := Go.Ground.phase }, { on := 6, ground := Go.Ground.phase }, { on := 7, ground := Go.Ground.phase }, { on := 8, ground := Go.Ground.phase }, { on := 9, ground := Go.Ground.phase }, { on := 10, ground := Go.Ground.phase }, { on := 11, ground := Go.Ground.phase }, { on := 12, ground := Go.Ground.phase }, { on := 13, ground := Go.Ground.phase }, { on := 14, ground := Go.Ground.phase }, { on := 15, ground := Go.Ground.phase }, { on := 16, ground := Go.Ground.phase }, { on := 17, ground := Go.Ground.phase }, { on := 18, ground := Go.Ground.phase }, { on := 19, ground := Go.Ground.phase }, { on := 20, ground := Go.Ground.phase }, { on := 21, ground := Go.Ground.phase }, { on := 22, ground := Go.Ground.phase }, { on := 23, ground := Go.Ground.phase }, { on := 24, ground := Go.Ground.phase }, { on := 25, ground := Go.Ground.phase }, { on := 26, ground := Go.Ground.phase }, { on := 27, ground := Go.Ground.phase }, { on := 28, ground := Go.Ground.phase }, { on := 29, ground := Go.Ground.phase }, { on := 30, ground := Go.Ground.phase }, { on := 31, ground := Go.Ground.phase }, { on := 32, ground := Go.Ground.phase }, { on := 33, ground := Go.Ground.phase }, { on := 34, ground := Go.Ground.phase }, { on := 35, ground := Go.Ground.phase }, { on := 36, ground := Go.Ground.phase }, { on := 37, ground := Go.Ground.phase }, { on := 38, ground := Go.Ground.phase }], guard := none }) (v := .slice a2 (k + 1) c2) rfl (by kernel_rfl) (by kernel_rfl) (by kernel_rfl) (fun _ _ _ h => h) (by rfl) ?_ HBZ.out ?_
        · (intro wq hSw; go_simp <;> with_reducible rfl)
        try simp only [Act.put, List.setIfInBounds_toArray, List.set_cons_zero, List.set_cons_succ]
        refine wpAnyH_done (by kernel_rfl) ?_ _
        clear HRun CC
        have hw : wrap64 ((k : Int) + 1) = ((k + 1 : Nat) : Int) := by have := HL.out; have := HLT.out; unfold wrap64; omega
        go_wp2
        go_roundw
        case rel => exact ⟨k + 1, a2, c2, by have := HLT.out; omega, rfl, by first | rfl | rw [hw], HBZ, by rw [HT.out]; have e := HOZ.out; rwa [List.length_append, HTL.out, List.length_singleton] at e⟩
        case measure => have := HLT.out; (try rw [hw]); simp only [intOf]; omega
      · obtain rfl : k = len := by omega
        have HTK : Hid (ts.take k = ts) := by show _ = _; rw [ELN.out]; exact List.take_length
        obtain ⟨a3, c3, e3, hat, hnil⟩ := recs_owned TxnD.cells7 ho.out rfl
        have hlen : (ts.take k).length = k := by rw [HTK.out, ELN.out]
        rw [hlen, HTK.out] at hat
        cases e3
        have HA := asks_any me sh va k vc ts wr hat hnil (by have := HL.out; omega)
        have HOB : Hid (Below w'.heap.size w' wr) := hb
        clear hat hnil hlen hb ho
        go_wp2_with fail
        refine HA.mono ?_
        rintro e w5 ⟨v5, rfl, o5, b5⟩
        clear HA
        obtain ⟨a5, c5, rfl, hx5, _⟩ := recs_owned askCells18 o5 rfl
        obtain ⟨N, eN⟩ : ∃ N, (asksL me sh ts).length = N := ⟨_, rfl⟩
        obtain ⟨m, em⟩ : ∃ m : Nat, (sh - 1).toNat = m := ⟨_, rfl⟩
        have hB := HB.out
        have hLL := asksL_length me sh hB.1 hB.2.1 hB.2.2 ts
        rw [eN, em, ← ELN.out] at hLL
        have HX5 : Hid (RecsAt AskV.cells 18 w5 a5 N (asksL me sh ts)) := by rw [← eN]; exact hx5
        have B5 : Hid (Below w'.heap.size w' w5) := HOB.out.trans (b5.mono HOB.out.size)
        have EN : Hid ((asksL me sh ts).length = N) := eN
        have EM : Hid ((sh - 1).toNat = m ∧ (m : Int) = sh - 1) := ⟨em, by have := HB.out; omega⟩
        have HNL : Hid (N = k * m ∧ m ≤ 2 ∧ k ≤ 100) := ⟨hLL, by have := HB.out; omega, HL.out⟩
        have wm : wrap64 (sh - 1) = (m : Int) := by have := HB.out; have := EM.out; unfold wrap64; omega
        have hNe : wrap64 ((k : Int) * (m : Int)) = (N : Int) := by
          have h1 := HNL.out
          have h2 : (k : Int) * (m : Int) = (N : Int) := by rw [h1.1]; push_cast; rfl
          have h3 : N ≤ 200 := by rw [h1.1]; exact Nat.mul_le_mul h1.2.2 h1.2.1
          rw [h2]
          unfold wrap64
          omega
        have hnn : ((N : Int) != (N : Int)) = false := by simp
        rw [eN]
        clear o5 b5 hx5 eN em hB hLL
        go_wp2_with fail
        clear hNe hnn
        rw [wm]
        go_loopw [12] (fun i wr => ∃ j : Nat, j ≤ N ∧ i = .int .i64 (j : Int) ∧ Hid (Below w5.heap.size w5 wr)) (fun i _ => N - (intOf i).toNat)
        case atStart => exact ⟨0, Nat.zero_le _, rfl, Below.refl _ _⟩
        case round =>
          obtain ⟨j, hj, rfl, hbr⟩ := hrel
          by_cases hjl : j < N
          · have hB := HB.out
            have hj2 : j < (asksL me sh ts).length := by rw [EN.out]; exact hjl
            obtain ⟨hm0, hq, g, hxe, hg1, hg2, hg3⟩ := asksL_at me sh hB.1 hB.2.1 hB.2.2 ts j hj2
            rw [EM.out.1] at hm0
            simp only [EM.out.1] at hq hxe
            obtain ⟨b, off, ea, hc⟩ := H.out.at hq
            have hbk := World.block_lt_of_cell? w' _ (hc 0 _ rfl)
            obtain ⟨b5, off5, e5, hc5⟩ := HX5.out.at hj2
            rw [hxe] at hc5
            have hb5 := World.block_lt_of_cell? w5 _ (hc5 0 _ rfl)
            have hBr : Below w'.heap.size w' wr := B5.out.trans (hbr.out.mono B5.out.size)
            generalize ts[j / m]'hq = t at hc hc5 hxe
            obtain ⟨tid, tfr, tky, tto, tn, td, tw⟩ := t
            obtain ⟨c, ec⟩ : ∃ c, wantC ⟨tid, tfr, tky, tto, tn, td, tw⟩ = c := ⟨_, rfl⟩
            rw [ec] at hc5
            have hck : (c.k == 4) = td ∧ c.id = tid ∧ c.nm = tto ∧ (td = false → c.k = 2 ∧ c.n = tn) ∧ c.data = .slice none 0 0 := by
              rw [← ec]; cases td <;> simp [wantC, CmdV.zero]
            obtain ⟨C, eC⟩ : ∃ C, AskV.cells (g, c) = C := ⟨_, rfl⟩
            rw [eC] at hc5
            have hone : C.toArray.all (·.oneCell') = true := by
              rw [← eC]
              simp [AskV.cells, CmdV.cells, Value.oneCell', hck.2.2.2.2]
            have hCl : C.length = 18 := by rw [← eC]; rfl
            have bW1 : Below wr.heap.size wr (wr.alloc (.cells #[.string tid, .string tfr, .string tky, .string tto, .int .i64 tn, .bool td, .int .i64 tw] 39)) := (Below.refl _ wr).alloc (Nat.le_refl _) _
            have bW1b : Below wr.heap.size wr ((wr.alloc (.cells #[.string tid, .string tfr, .string tky, .string tto, .int .i64 tn, .bool td, .int .i64 tw] 39)).alloc (.cells #[.int .i64 0, .int .i64 0, .int .i64 0, .string ⟨#[]⟩, .string ⟨#[]⟩, .int .i64 0, .string ⟨#[]⟩, .int .i64 0, .int .i64 0, .string ⟨#[]⟩, .string ⟨#[]⟩, .int .i64 0, .int .i64 0, .int .i64 0, .int .i64 0, .int .i64 0, .bool false, .slice none 0 0] 49)) := bW1.alloc (by simp) _
            have hG1 : ((wr.alloc (.cells #[.string tid, .string tfr, .string tky, .string tto, .int .i64 tn, .bool td, .int .i64 tw] 39)).alloc (.cells #[.int .i64 0, .int .i64 0, .int .i64 0, .string ⟨#[]⟩, .string ⟨#[]⟩, .int .i64 0, .string ⟨#[]⟩, .int .i64 0, .int .i64 0, .string ⟨#[]⟩, .string ⟨#[]⟩, .int .i64 0, .int .i64 0, .int .i64 0, .int .i64 0, .int .i64 0, .bool false, .slice none 0 0] 49)).heap[wr.heap.size + 1]? = some (.cells #[.int .i64 0, .int .i64 0, .int .i64 0, .string ⟨#[]⟩, .string ⟨#[]⟩, .int .i64 0, .string ⟨#[]⟩, .int .i64 0, .int .i64 0, .string ⟨#[]⟩, .string ⟨#[]⟩, .int .i64 0, .int .i64 0, .int .i64 0, .int .i64 0, .int .i64 0, .bool false, .slice none 0 0] 49 (0, 0)) := heap_two wr _ _
            have hG0 : ((wr.alloc (.cells #[.string tid, .string tfr, .string tky, .string tto, .int .i64 tn, .bool td, .int .i64 tw] 39)).alloc (.cells #[.int .i64 0, .int .i64 0, .int .i64 0, .string ⟨#[]⟩, .string ⟨#[]⟩, .int .i64 0, .string ⟨#[]⟩, .int .i64 0, .int .i64 0, .string ⟨#[]⟩, .string ⟨#[]⟩, .int .i64 0, .int .i64 0, .int .i64 0, .int .i64 0, .int .i64 0, .bool false, .slice none 0 0] 49)).heap[wr.heap.size]? = some (.cells #[.string tid, .string tfr, .string tky, .string tto, .int .i64 tn, .bool td, .int .i64 tw] 39 (0, 0)) := by rw [Below.heap_alloc _ _ _ (by simp), heap_alloc_new]
            obtain ⟨W2, eW2⟩ : ∃ W2, ((wr.alloc (.cells #[.string tid, .string tfr, .string tky, .string tto, .int .i64 tn, .bool td, .int .i64 tw] 39)).alloc (.cells #[.int .i64 0, .int .i64 0, .int .i64 0, .string ⟨#[]⟩, .string ⟨#[]⟩, .int .i64 0, .string ⟨#[]⟩, .int .i64 0, .int .i64 0, .string ⟨#[]⟩, .string ⟨#[]⟩, .int .i64 0, .int .i64 0, .int .i64 0, .int .i64 0, .int .i64 0, .bool false, .slice none 0 0] 49)).setRow (wr.heap.size + 1) C.toArray = W2 := ⟨_, rfl⟩
            have r14 : W2.heap[wr.heap.size + 1]? = some (.cells C.toArray 49 (0, 0)) := by rw [← eW2]; exact setRow_heap _ _ _ _ _ _ hG1
            have r13 : W2.heap[wr.heap.size]? = some (.cells #[.string tid, .string tfr, .string tky, .string tto, .int .i64 tn, .bool td, .int .i64 tw] 39 (0, 0)) := by rw [← eW2, setRow_other _ _ _ _ (by omega)]; exact hG0
            have bW2 : Below wr.heap.size wr W2 := by
              rw [← eW2]
              refine ⟨bW1b.os, bW1b.tape, bW1b.output, by rw [setRow_size]; exact bW1b.size, fun k hk => ?_⟩
              rw [setRow_other _ _ _ _ (by omega)]
              exact bW1b.block k hk
            have cellT : ∀ (i : Nat) (v : Value), #[.string tid, .string tfr, .string tky, .string tto, .int .i64 tn, .bool td, .int .i64 tw][i]? = some v → W2.cell? ⟨wr.heap.size, i, none⟩ = some v := fun i v hv => by simp only [World.cell?, r13]; exact hv
            have cellA : ∀ (i : Nat) (v : Value), C[i]? = some v → W2.cell? ⟨wr.heap.size + 1, i, none⟩ = some v := fun i v hv => by simp only [World.cell?, r14]; simpa using hv
            have p0 := cellT 0 _ rfl
            have p3 := cellT 3 _ rfl
            have p4 := cellT 4 _ rfl
            have p5 := cellT 5 _ rfl
            have q0 := cellA 0 (.int .i64 g) (by rw [← eC]; rfl)
            have q1' := cellA 1 (.int .i64 c.k) (by rw [← eC]; rfl)
            have q9 := cellA 9 (.string tid) (by rw [← eC, ← hck.2.1]; rfl)
            have q10 := cellA 10 (.string tto) (by rw [← eC, ← hck.2.2.1]; rfl)
            have q11 := cellA 11 (.int .i64 c.n) (by rw [← eC]; rfl)
            have cc : ∀ i v, (TxnD.cells ⟨tid, tfr, tky, tto, tn, td, tw⟩)[i]? = some v → wr.cell? ⟨b, off + j / m * 7 + i, none⟩ = some v := fun i v hv => by
              rw [hBr.cell (p := ⟨b, off + j / m * 7 + i, none⟩) hbk]
              exact hc i v hv
            have y0 := cc 0 _ rfl
            have y1 := cc 1 _ rfl
            have y2 := cc 2 _ rfl
            have y3 := cc 3 _ rfl
            have y4 := cc 4 _ rfl
            have y5 := cc 5 _ rfl
            have y6 := cc 6 _ rfl
            simp only [Nat.add_zero] at y0
            have HRG : Hid ((wr.alloc (.cells #[.string tid, .string tfr, .string tky, .string tto, .int .i64 tn, .bool td, .int .i64 tw] 39)).rangeAt b5 (off5 + j * 18) C) := fun i v hv => by
              have hb2 : Below w5.heap.size w5 (wr.alloc (.cells #[.string tid, .string tfr, .string tky, .string tto, .int .i64 tn, .bool td, .int .i64 tw] 39)) := hbr.out.trans (bW1.mono hbr.out.size)
              rw [hb2.cell (p := ⟨b5, off5 + j * 18 + i, none⟩) hb5]
              exact hc5 i v hv
            have HSZ : Hid ((Try.prog.info? 49).map (·.size) = some C.length) := by rw [hCl]; show _ = _; kernel_rfl
            have HSZ2 : Hid ((Try.prog.info? 49).map (·.size) = some C.toArray.size) := by rw [List.size_toArray]; exact HSZ.out
            have HSO : Hid ((#[.int .i64 0, .int .i64 0, .int .i64 0, .string ⟨#[]⟩, .string ⟨#[]⟩, .int .i64 0, .string ⟨#[]⟩, .int .i64 0, .int .i64 0, .string ⟨#[]⟩, .string ⟨#[]⟩, .int .i64 0, .int .i64 0, .int .i64 0, .int .i64 0, .int .i64 0, .bool false, .slice none 0 0] : Array Value).size = C.toArray.size) := by show (18 : Nat) = C.toArray.size; rw [List.size_toArray, hCl]
            have HON : Hid (C.toArray.all (·.oneCell') = true) := hone
            have HG1 : Hid _ := hG1
            have EW : Hid (((wr.alloc (.cells #[.string tid, .string tfr, .string tky, .string tto, .int .i64 tn, .bool td, .int .i64 tw] 39)).alloc (.cells #[.int .i64 0, .int .i64 0, .int .i64 0, .string ⟨#[]⟩, .string ⟨#[]⟩, .int .i64 0, .string ⟨#[]⟩, .int .i64 0, .int .i64 0, .string ⟨#[]⟩, .string ⟨#[]⟩, .int .i64 0, .int .i64 0, .int .i64 0, .int .i64 0, .int .i64 0, .bool false, .slice none 0 0] 49)).setRow (wr.heap.size + 1) C.toArray = W2) := eW2
            have R14 : Hid (W2.heap[wr.heap.size + 1]? = some (.cells C.toArray 49 (0, 0))) := r14
            have BW2 : Hid (Below wr.heap.size wr W2) := bW2
            have HBr : Hid (Below w'.heap.size w' wr) := hBr
            have hqd : Int.tdiv (j : Int) (m : Int) = ((j / m : Nat) : Int) := by
              rw [Int.tdiv_eq_ediv_of_nonneg (by omega)]; omega
            have hqw : ∀ q : Nat, q = j / m → wrap64 (q : Int) = (q : Int) := fun q e => by
              have h1 : q ≤ j := by rw [e]; exact Nat.div_le_self _ _
              have h2 := HNL.out
              have h3 : N ≤ 200 := by rw [h2.1]; exact Nat.mul_le_mul h2.2.2 h2.2.1
              clear e
              unfold wrap64; omega
            have hmz : ((m : Int) == 0) = false := by simp; omega
            have hmz2 : ¬ (m : Int) = 0 := by omega
            have f1 : (g == me) = false := by simpa using hg3
            have f2 : decide (g < 1) = false := decide_eq_false (by omega)
            have f3 : decide (sh < g) = false := decide_eq_false (by omega)
            have f4 := text_self tid
            have f5 := text_self tto
            have f6 : (c.k == 4) = td := hck.1
            have f7 : (td != td) = false := by simp
            have HCK : Hid (td = false → c.k = 2 ∧ c.n = tn) := hck.2.2.2.1
            have HQ : Hid (j / m < k) := by show _ < _; rw [ELN.out]; exact hq
            have hqk := HQ.out
            have HNX : Hid (∀ y W, Calls Try.prog 11 #[.agg C.toArray, .agg #[.int .i64 y, .bool false, .int .i64 0, .int .i64 0, .slice none 0 0, .slice none 0 0]] W fun e w' => e = .returned (.tuple #[.agg (nextC c y).1.cells.toArray, .bool (nextC c y).2]) ∧ Below W.heap.size W w') := by rw [← eC]; exact fun y W => next_any g c y false 0 0 _ _ W
            have HJ : Hid (j < N) := hjl
            obtain ⟨q, eq⟩ : ∃ q, j / m = q := ⟨_, rfl⟩
            replace hqw := hqw q eq.symm
            rw [eq] at y0 y1 y2 y3 y4 y5 y6 hqd hqk
            have hid : c.id = tid := hck.2.1
            have HID : Hid (c.id = tid) := hid
            cases ea
            cases e5
            clear hbk hb5 hc hc5 cc cellT cellA hck hone hCl eC bW1 bW1b hG1 hG0 eW2 r14 r13 bW2 hB hj2 hm0 hq hxe hg1 hg2 hg3 hBr hid ec eq
            by_cases hyn : j < yn
            · have hyl : j < ys.length := by rw [← HY.out.1]; exact hyn
              obtain ⟨yb, yo, ey, hyc⟩ := HY.out.at (W := W2) (HBr.out.trans (BW2.out.mono HBr.out.size)) hyl
              generalize ys[j]'hyl = y at hyc
              cases ey
              have hyi : (j : Int) < (yn : Int) := by omega
              cases td with
              | true =>
                have hk0 : c.k = 4 := by simpa using f6
                go_wp2_with (first
                | (show wpList _ _ _ ({ dst := some 102, op := _, type := _, pos := _, after := _, guard := _ } :: _) _ _; refine wpList_load_mid rfl 49 (.tmp 101) rfl b5 (off5 + j * 18) rfl C _ HRG.out Try.underlying49 rfl HSZ.out ?_)
                | (show wpList _ _ _ ({ dst := none, op := _, type := _, pos := _, after := _, guard := _ } :: _) _ _; refine wpList_store_row rfl 49 (.tmp 14) (.tmp 102) rfl (wr.heap.size + 1) C.toArray rfl rfl 49 #[.int .i64 0, .int .i64 0, .int .i64 0, .string ⟨#[]⟩, .string ⟨#[]⟩, .int .i64 0, .string ⟨#[]⟩, .int .i64 0, .int .i64 0, .string ⟨#[]⟩, .string ⟨#[]⟩, .int .i64 0, .int .i64 0, .int .i64 0, .int .i64 0, .int .i64 0, .bool false, .slice none 0 0] HG1.out HSZ2.out HSO.out HON.out ?_; rw [EW.out]; refine Hid.out ?_))
                unfold Hid
                clear HRG HSZ HSO HON HG1 EW y0 y1 y2 y3 y4 y5 y6 hqd hmz hmz2 hqk hqw wm
                refine wpList_nil ?_
                rename_i hKa
                refine hKa _ _ ?_
                clear hKa
                refine wp_seq ?_
                refine wp_seq ?_
                have q1k : W2.cell? ⟨wr.heap.size + 1, 1, none⟩ = some (.int .i64 4) := by rw [q1', hk0]
                refine once18_true me sh g wr.heap.size (wr.heap.size + 1) tid tto tn c.n _ _ _ _ _ _ _ _ _ _ _ _ _ _ _ _ _ _ _ _ _ _ _ _ _ _ _ _ _ _ _ _ _ _ _ _ _ _ _ _ _ _ _ _ _ _ _ _ _ _ _ _ _ _ _ _ _ _ _ _ _ _ _ _ _ _ _ _ _ _ _ _ _ _ _ _ _ _ _ _ _ _ _ _ _ _ _ _ _ _ _ _ _ _ _ _ _ _ _ _ _ _ _ _ _ _ _ _ _ _ _ _ _ _ _ _ _ _ _ _ _ _ _ _ _ _ _ _ _ _ _ _ _ _ _ _ _ _ _ _ _ _ _ _ _ _ _ _ _ _ _ _ _ _ _ _ _ _ _ _ _ _ _ _ _ _ _ _ _ _ _ _ _ _ _ _ _ _ _ _ _ _ _ _ _ _ _ _ _ _ _ _ _ _ _ _ _ W2 _ p0 p3 p4 p5 q0 q1k q9 q10 q11 f1 f2 f3 ?_
                intro v103 v104 v105 v106 v107 v108 v109 v110 v111 v112 v113 v114 v115 v116 v117 v118 v119 v120 v121 v122 v123 v124 v125 v126 v127 v128 v129 v130 v131 v132 v133 v134 v135 v136 v137 v138 v139 v140 v141 v142 v143 v144 v145 v146 v147 v148 v149 v150 v151 v152 v153 v154 v155 v156 v157 v158 v159 v160
                clear p3 p4 p5 q0 q1' q1k q9 q10 q11 f1 f2 f3 f4 f5 f6 f7
                go_wp2_with (first
                | (show wpList _ _ _ ({ dst := some 171, op := _, type := _, pos := _, after := _, guard := _ } :: _) _ _; refine wpList_load_row rfl 49 (.tmp 14) rfl (wr.heap.size + 1) rfl 49 C.toArray (0, 0) _ R14.out Try.underlying49 rfl HSZ2.out ?_))
                refine (HNX.out y _).mono ?_
                rintro e w3 ⟨rfl, b3⟩
                obtain ⟨X, eX⟩ : ∃ X, nextC c y = X := ⟨_, rfl⟩
                rw [eX]
                have hXd : X.1.data = .slice none 0 0 := by rw [← eX]; exact next_data c y
                have hXi : X.2 = true → X.1.id = tid := fun h => by rw [← HID.out]; rw [← eX] at h ⊢; exact next_id c y h
                have EX : Hid (nextC c y = X) := eX
                clear eX
                obtain ⟨xc, bk⟩ := X
                simp only at hXd hXi ⊢
                obtain ⟨D, eD⟩ : ∃ D, xc.cells = D := ⟨_, rfl⟩
                rw [eD]
                have HDI : Hid ((Try.prog.info? 47).map (·.size) = some D.toArray.size) := by rw [List.size_toArray, ← eD, CmdV.cells17]; show _ = _; kernel_rfl
                have HDS : Hid ((#[.int .i64 0, .int .i64 0, .string ⟨#[]⟩, .string ⟨#[]⟩, .int .i64 0, .string ⟨#[]⟩, .int .i64 0, .int .i64 0, .string ⟨#[]⟩, .string ⟨#[]⟩, .int .i64 0, .int .i64 0, .int .i64 0, .int .i64 0, .int .i64 0, .bool false, .slice none 0 0] : Array Value).size = D.toArray.size) := by show (17 : Nat) = D.toArray.size; rw [List.size_toArray, ← eD, CmdV.cells17]
                have HDO : Hid (D.toArray.all (·.oneCell') = true) := by rw [← eD]; show _ = _; simp [CmdV.cells, Value.oneCell', hXd]
                have HG3 : Hid ((w3.alloc (.cells #[.int .i64 0, .int .i64 0, .string ⟨#[]⟩, .string ⟨#[]⟩, .int .i64 0, .string ⟨#[]⟩, .int .i64 0, .int .i64 0, .string ⟨#[]⟩, .string ⟨#[]⟩, .int .i64 0, .int .i64 0, .int .i64 0, .int .i64 0, .int .i64 0, .bool false, .slice none 0 0] 47)).heap[w3.heap.size]? = some (.cells #[.int .i64 0, .int .i64 0, .string ⟨#[]⟩, .string ⟨#[]⟩, .int .i64 0, .string ⟨#[]⟩, .int .i64 0, .int .i64 0, .string ⟨#[]⟩, .string ⟨#[]⟩, .int .i64 0, .int .i64 0, .int .i64 0, .int .i64 0, .int .i64 0, .bool false, .slice none 0 0] 47 (0, 0))) := heap_alloc_new w3 _
                obtain ⟨W4, eW4⟩ : ∃ W4, (w3.alloc (.cells #[.int .i64 0, .int .i64 0, .string ⟨#[]⟩, .string ⟨#[]⟩, .int .i64 0, .string ⟨#[]⟩, .int .i64 0, .int .i64 0, .string ⟨#[]⟩, .string ⟨#[]⟩, .int .i64 0, .int .i64 0, .int .i64 0, .int .i64 0, .int .i64 0, .bool false, .slice none 0 0] 47)).setRow w3.heap.size D.toArray = W4 := ⟨_, rfl⟩
                have hD : W4.heap[w3.heap.size]? = some (.cells D.toArray 47 (0, 0)) := by rw [← eW4]; exact setRow_heap _ _ _ _ _ _ HG3.out
                have b23 : Below wr.heap.size wr w3 := BW2.out.trans (b3.mono BW2.out.size)
                have hlt3 : wr.heap.size < w3.heap.size := Nat.lt_of_lt_of_le (Array.getElem?_eq_some_iff.1 R14.out).1 b3.size |> fun h => by omega
                have b4 : Below w3.heap.size w3 W4 := by
                  rw [← eW4]
                  have ba := (Below.refl w3.heap.size w3).alloc (Nat.le_refl _) (.cells #[.int .i64 0, .int .i64 0, .string ⟨#[]⟩, .string ⟨#[]⟩, .int .i64 0, .string ⟨#[]⟩, .int .i64 0, .int .i64 0, .string ⟨#[]⟩, .string ⟨#[]⟩, .int .i64 0, .int .i64 0, .int .i64 0, .int .i64 0, .int .i64 0, .bool false, .slice none 0 0] 47)
                  refine ⟨ba.os, ba.tape, ba.output, by rw [setRow_size]; exact ba.size, fun k hk => ?_⟩
                  rw [setRow_other _ _ _ _ (by omega)]
                  exact ba.block k hk
                have d8 : bk = true → W4.cell? ⟨w3.heap.size, 8, none⟩ = some (.string tid) := fun h => by
                  simp only [World.cell?, hD, ← eD]
                  rw [← hXi h]
                  rfl
                replace p0 : W4.cell? ⟨wr.heap.size, 0, none⟩ = some (.string tid) := by
                  rw [b4.cell (p := ⟨wr.heap.size, 0, none⟩) hlt3, b3.cell (p := ⟨wr.heap.size, 0, none⟩) (World.block_lt_of_cell? W2 _ p0)]
                  exact p0
                have BW4 : Hid (Below w5.heap.size w5 W4) := by
                  have h1 := hbr.out.trans (b23.mono hbr.out.size)
                  exact h1.trans (b4.mono h1.size)
                have EW4 : Hid ((w3.alloc (.cells #[.int .i64 0, .int .i64 0, .string ⟨#[]⟩, .string ⟨#[]⟩, .int .i64 0, .string ⟨#[]⟩, .int .i64 0, .int .i64 0, .string ⟨#[]⟩, .string ⟨#[]⟩, .int .i64 0, .int .i64 0, .int .i64 0, .int .i64 0, .int .i64 0, .bool false, .slice none 0 0] 47)).setRow w3.heap.size D.toArray = W4) := eW4
                have D8 : Hid (bk = true → W4.cell? ⟨w3.heap.size, 8, none⟩ = some (.string tid)) := d8
                have P0 : Hid (W4.cell? ⟨wr.heap.size, 0, none⟩ = some (.string tid)) := p0
                have hw : wrap64 ((j : Int) + 1) = ((j + 1 : Nat) : Int) := by
                  have h1 := HJ.out
                  have h2 := HNL.out
                  have h3 : N ≤ 200 := by rw [h2.1]; exact Nat.mul_le_mul h2.2.2 h2.2.1
                  unfold wrap64; omega
                have HW : Hid _ := hw
                clear hXd hXi eD eW4 hD b23 b4 d8 p0 b3 hlt3 hw
                go_wp2_with (first
                | (show wpList _ _ _ ({ dst := none, op := _, type := _, pos := _, after := _, guard := _ } :: _) _ _; refine wpList_store_row rfl 47 (.tmp 16) (.tmp 175) rfl w3.heap.size D.toArray rfl rfl 47 #[.int .i64 0, .int .i64 0, .string ⟨#[]⟩, .string ⟨#[]⟩, .int .i64 0, .string ⟨#[]⟩, .int .i64 0, .int .i64 0, .string ⟨#[]⟩, .string ⟨#[]⟩, .int .i64 0, .int .i64 0, .int .i64 0, .int .i64 0, .int .i64 0, .bool false, .slice none 0 0] HG3.out HDI.out HDS.out HDO.out ?_; rw [EW4.out]; refine Hid.out ?_))
                unfold Hid
                clear HDI HDS HDO HG3 EW4
                refine wpList_valueX (.bool bk) (by rfl) (w' := W4) (by go_simp <;> with_reducible rfl) ?_
                simp only [Act.put, List.setIfInBounds_toArray, List.set_cons_zero, List.set_cons_succ]
                refine wpList_nil ?_
                rename_i hKb
                refine hKb _ _ ?_
                clear hKb
                refine wp_seq ?_
                have hw := HW.out
                have ex := EX.out
                unfold nextC at ex
                by_cases m5 : y = 5
                · subst m5
                  rw [if_pos (by decide)] at ex
                  obtain rfl : bk = false := (congrArg Prod.snd ex).symm
                  clear ex
                  refine once24_a wr.heap.size w3.heap.size 5 tid _ _ _ _ _ _ _ _ _ _ _ _ _ _ _ _ _ _ _ _ _ _ _ _ _ _ _ _ _ _ _ _ _ _ _ _ _ _ _ _ _ _ _ _ _ _ _ _ _ _ _ _ _ _ _ _ _ _ _ _ _ _ _ _ _ _ _ _ _ _ _ _ _ _ _ _ _ _ _ _ _ _ _ _ _ _ _ _ _ _ _ _ _ _ _ _ _ _ _ _ _ _ _ _ _ _ _ _ _ _ _ _ _ _ _ _ _ _ _ _ _ _ _ _ _ _ _ _ _ _ _ _ _ _ _ _ _ _ _ _ _ _ _ _ _ _ _ _ _ _ _ _ _ _ _ _ _ _ _ _ _ _ _ _ _ _ _ _ _ _ _ _ _ _ _ _ _ _ _ _ _ _ _ _ _ _ _ _ _ _ _ _ _ _ _ _ _ W4 _ ?_
                  intro v177 v178 v179 v180 v181 v182 v183 v184 v185 v186 v187 v188 v189 v190 v191 v192 v193 v194 v195 v196 v197 v198
                  go_wp2
                  go_roundw
                  case rel => exact ⟨j + 1, HJ.out, by first | rfl | rw [hw], BW4⟩
                  case measure => (try rw [hw]); exact meas_lt N j HJ.out
                · have b5 : (y == 5) = false := by simpa using m5
                  by_cases m1 : y = 1
                  · subst m1
                    rw [if_pos (by decide)] at ex
                    obtain rfl : bk = false := (congrArg Prod.snd ex).symm
                    clear ex
                    refine once24_b wr.heap.size w3.heap.size 1 tid _ _ _ _ _ _ _ _ _ _ _ _ _ _ _ _ _ _ _ _ _ _ _ _ _ _ _ _ _ _ _ _ _ _ _ _ _ _ _ _ _ _ _ _ _ _ _ _ _ _ _ _ _ _ _ _ _ _ _ _ _ _ _ _ _ _ _ _ _ _ _ _ _ _ _ _ _ _ _ _ _ _ _ _ _ _ _ _ _ _ _ _ _ _ _ _ _ _ _ _ _ _ _ _ _ _ _ _ _ _ _ _ _ _ _ _ _ _ _ _ _ _ _ _ _ _ _ _ _ _ _ _ _ _ _ _ _ _ _ _ _ _ _ _ _ _ _ _ _ _ _ _ _ _ _ _ _ _ _ _ _ _ _ _ _ _ _ _ _ _ _ _ _ _ _ _ _ _ _ _ _ _ _ _ _ _ _ _ _ _ _ _ _ _ _ _ _ W4 _ ?_
                    intro v177 v178 v179 v180 v181 v182 v183 v184 v185 v186 v187 v188 v189 v190 v191 v192 v193 v194 v195 v196 v197 v198
                    go_wp2
                    go_roundw
                    case rel => exact ⟨j + 1, HJ.out, by first | rfl | rw [hw], BW4⟩
                    case measure => (try rw [hw]); exact meas_lt N j HJ.out
                  · have b1 : (y == 1) = false := by simpa using m1
                    by_cases m2 : y = 2
                    · subst m2
                      rw [if_pos (by decide)] at ex
                      obtain rfl : bk = false := (congrArg Prod.snd ex).symm
                      clear ex
                      refine once24_c wr.heap.size w3.heap.size 2 tid _ _ _ _ _ _ _ _ _ _ _ _ _ _ _ _ _ _ _ _ _ _ _ _ _ _ _ _ _ _ _ _ _ _ _ _ _ _ _ _ _ _ _ _ _ _ _ _ _ _ _ _ _ _ _ _ _ _ _ _ _ _ _ _ _ _ _ _ _ _ _ _ _ _ _ _ _ _ _ _ _ _ _ _ _ _ _ _ _ _ _ _ _ _ _ _ _ _ _ _ _ _ _ _ _ _ _ _ _ _ _ _ _ _ _ _ _ _ _ _ _ _ _ _ _ _ _ _ _ _ _ _ _ _ _ _ _ _ _ _ _ _ _ _ _ _ _ _ _ _ _ _ _ _ _ _ _ _ _ _ _ _ _ _ _ _ _ _ _ _ _ _ _ _ _ _ _ _ _ _ _ _ _ _ _ _ _ _ _ _ _ _ _ _ _ _ _ W4 _ ?_
                      intro v177 v178 v179 v180 v181 v182 v183 v184 v185 v186 v187 v188 v189 v190 v191 v192 v193 v194 v195 v196 v197 v198
                      go_wp2
                      go_roundw
                      case rel => exact ⟨j + 1, HJ.out, by first | rfl | rw [hw], BW4⟩
                      case measure => (try rw [hw]); exact meas_lt N j HJ.out
                    · have b2 : (y == 2) = false := by simpa using m2
                      have hmu : ¬ mute y = true := by simp [mute, m5, m1, m2]
                      rw [if_neg hmu] at ex
                      rw [if_neg (by rw [hk0]; decide)] at ex
                      by_cases m0 : y = 0
                      · rw [if_pos ⟨hk0, m0⟩] at ex
                        obtain rfl : bk = true := (congrArg Prod.snd ex).symm
                        have d8 := D8.out rfl
                        have p0 := P0.out
                        clear ex
                        refine once24_d wr.heap.size w3.heap.size y tid _ _ _ _ _ _ _ _ _ _ _ _ _ _ _ _ _ _ _ _ _ _ _ _ _ _ _ _ _ _ _ _ _ _ _ _ _ _ _ _ _ _ _ _ _ _ _ _ _ _ _ _ _ _ _ _ _ _ _ _ _ _ _ _ _ _ _ _ _ _ _ _ _ _ _ _ _ _ _ _ _ _ _ _ _ _ _ _ _ _ _ _ _ _ _ _ _ _ _ _ _ _ _ _ _ _ _ _ _ _ _ _ _ _ _ _ _ _ _ _ _ _ _ _ _ _ _ _ _ _ _ _ _ _ _ _ _ _ _ _ _ _ _ _ _ _ _ _ _ _ _ _ _ _ _ _ _ _ _ _ _ _ _ _ _ _ _ _ _ _ _ _ _ _ _ _ _ _ _ _ _ _ _ _ _ _ _ _ _ _ _ _ _ _ _ _ _ W4 _ b5 b1 b2 p0 d8 ?_
                        intro v177 v178 v179 v180 v181 v182 v183 v184 v185 v186 v187 v188 v189 v190 v191 v192 v193 v194 v195 v196 v197 v198
                        go_wp2
                        go_roundw
                        case rel => exact ⟨j + 1, HJ.out, by first | rfl | rw [hw], BW4⟩
                        case measure => (try rw [hw]); exact meas_lt N j HJ.out
                      · rw [if_neg (fun h => m0 h.2)] at ex
                        obtain rfl : bk = false := (congrArg Prod.snd ex).symm
                        clear ex
                        refine once24_e wr.heap.size w3.heap.size y tid _ _ _ _ _ _ _ _ _ _ _ _ _ _ _ _ _ _ _ _ _ _ _ _ _ _ _ _ _ _ _ _ _ _ _ _ _ _ _ _ _ _ _ _ _ _ _ _ _ _ _ _ _ _ _ _ _ _ _ _ _ _ _ _ _ _ _ _ _ _ _ _ _ _ _ _ _ _ _ _ _ _ _ _ _ _ _ _ _ _ _ _ _ _ _ _ _ _ _ _ _ _ _ _ _ _ _ _ _ _ _ _ _ _ _ _ _ _ _ _ _ _ _ _ _ _ _ _ _ _ _ _ _ _ _ _ _ _ _ _ _ _ _ _ _ _ _ _ _ _ _ _ _ _ _ _ _ _ _ _ _ _ _ _ _ _ _ _ _ _ _ _ _ _ _ _ _ _ _ _ _ _ _ _ _ _ _ _ _ _ _ _ _ _ _ _ _ W4 _ b5 b1 b2 ?_
                        intro v177 v178 v179 v180 v181 v182 v183 v184 v185 v186 v187 v188 v189 v190 v191 v192 v193 v194 v195 v196 v197 v198
                        go_wp2
                        go_roundw
                        case rel => exact ⟨j + 1, HJ.out, by first | rfl | rw [hw], BW4⟩
                        case measure => (try rw [hw]); exact meas_lt N j HJ.out
              | false =>
                have hk0 : c.k = 2 := (HCK.out rfl).1
                obtain ⟨e1, e2⟩ := HCK.out rfl
                have f8 : (c.k != 2) = false := by simpa using e1
                have f9 : (c.n != tn) = false := by simpa using e2
                clear e1 e2
                go_wp2_with (first
                | (show wpList _ _ _ ({ dst := some 102, op := _, type := _, pos := _, after := _, guard := _ } :: _) _ _; refine wpList_load_mid rfl 49 (.tmp 101) rfl b5 (off5 + j * 18) rfl C _ HRG.out Try.underlying49 rfl HSZ.out ?_)
                | (show wpList _ _ _ ({ dst := none, op := _, type := _, pos := _, after := _, guard := _ } :: _) _ _; refine wpList_store_row rfl 49 (.tmp 14) (.tmp 102) rfl (wr.heap.size + 1) C.toArray rfl rfl 49 #[.int .i64 0, .int .i64 0, .int .i64 0, .string ⟨#[]⟩, .string ⟨#[]⟩, .int .i64 0, .string ⟨#[]⟩, .int .i64 0, .int .i64 0, .string ⟨#[]⟩, .string ⟨#[]⟩, .int .i64 0, .int .i64 0, .int .i64 0, .int .i64 0, .int .i64 0, .bool false, .slice none 0 0] HG1.out HSZ2.out HSO.out HON.out ?_; rw [EW.out]; refine Hid.out ?_))
                unfold Hid
                clear HRG HSZ HSO HON HG1 EW y0 y1 y2 y3 y4 y5 y6 hqd hmz hmz2 hqk hqw wm
                refine wpList_nil ?_
                rename_i hKa
                refine hKa _ _ ?_
                clear hKa
                refine wp_seq ?_
                refine wp_seq ?_
                have q1k : W2.cell? ⟨wr.heap.size + 1, 1, none⟩ = some (.int .i64 2) := by rw [q1', hk0]
                refine once18_false me sh g wr.heap.size (wr.heap.size + 1) tid tto tn c.n _ _ _ _ _ _ _ _ _ _ _ _ _ _ _ _ _ _ _ _ _ _ _ _ _ _ _ _ _ _ _ _ _ _ _ _ _ _ _ _ _ _ _ _ _ _ _ _ _ _ _ _ _ _ _ _ _ _ _ _ _ _ _ _ _ _ _ _ _ _ _ _ _ _ _ _ _ _ _ _ _ _ _ _ _ _ _ _ _ _ _ _ _ _ _ _ _ _ _ _ _ _ _ _ _ _ _ _ _ _ _ _ _ _ _ _ _ _ _ _ _ _ _ _ _ _ _ _ _ _ _ _ _ _ _ _ _ _ _ _ _ _ _ _ _ _ _ _ _ _ _ _ _ _ _ _ _ _ _ _ _ _ _ _ _ _ _ _ _ _ _ _ _ _ _ _ _ _ _ _ _ _ _ _ _ _ _ _ _ _ _ _ _ _ _ _ _ W2 _ p0 p3 p4 p5 q0 q1k q9 q10 q11 f1 f2 f3 f9 ?_
                intro v103 v104 v105 v106 v107 v108 v109 v110 v111 v112 v113 v114 v115 v116 v117 v118 v119 v120 v121 v122 v123 v124 v125 v126 v127 v128 v129 v130 v131 v132 v133 v134 v135 v136 v137 v138 v139 v140 v141 v142 v143 v144 v145 v146 v147 v148 v149 v150 v151 v152 v153 v154 v155 v156 v157 v158 v159 v160
                clear p3 p4 p5 q0 q1' q1k q9 q10 q11 f1 f2 f3 f4 f5 f6 f7
                go_wp2_with (first
                | (show wpList _ _ _ ({ dst := some 171, op := _, type := _, pos := _, after := _, guard := _ } :: _) _ _; refine wpList_load_row rfl 49 (.tmp 14) rfl (wr.heap.size + 1) rfl 49 C.toArray (0, 0) _ R14.out Try.underlying49 rfl HSZ2.out ?_))
                refine (HNX.out y _).mono ?_
                rintro e w3 ⟨rfl, b3⟩
                obtain ⟨X, eX⟩ : ∃ X, nextC c y = X := ⟨_, rfl⟩
                rw [eX]
                have hXd : X.1.data = .slice none 0 0 := by rw [← eX]; exact next_data c y
                have hXi : X.2 = true → X.1.id = tid := fun h => by rw [← HID.out]; rw [← eX] at h ⊢; exact next_id c y h
                have EX : Hid (nextC c y = X) := eX
                clear eX
                obtain ⟨xc, bk⟩ := X
                simp only at hXd hXi ⊢
                obtain ⟨D, eD⟩ : ∃ D, xc.cells = D := ⟨_, rfl⟩
                rw [eD]
                have HDI : Hid ((Try.prog.info? 47).map (·.size) = some D.toArray.size) := by rw [List.size_toArray, ← eD, CmdV.cells17]; show _ = _; kernel_rfl
                have HDS : Hid ((#[.int .i64 0, .int .i64 0, .string ⟨#[]⟩, .string ⟨#[]⟩, .int .i64 0, .string ⟨#[]⟩, .int .i64 0, .int .i64 0, .string ⟨#[]⟩, .string ⟨#[]⟩, .int .i64 0, .int .i64 0, .int .i64 0, .int .i64 0, .int .i64 0, .bool false, .slice none 0 0] : Array Value).size = D.toArray.size) := by show (17 : Nat) = D.toArray.size; rw [List.size_toArray, ← eD, CmdV.cells17]
                have HDO : Hid (D.toArray.all (·.oneCell') = true) := by rw [← eD]; show _ = _; simp [CmdV.cells, Value.oneCell', hXd]
                have HG3 : Hid ((w3.alloc (.cells #[.int .i64 0, .int .i64 0, .string ⟨#[]⟩, .string ⟨#[]⟩, .int .i64 0, .string ⟨#[]⟩, .int .i64 0, .int .i64 0, .string ⟨#[]⟩, .string ⟨#[]⟩, .int .i64 0, .int .i64 0, .int .i64 0, .int .i64 0, .int .i64 0, .bool false, .slice none 0 0] 47)).heap[w3.heap.size]? = some (.cells #[.int .i64 0, .int .i64 0, .string ⟨#[]⟩, .string ⟨#[]⟩, .int .i64 0, .string ⟨#[]⟩, .int .i64 0, .int .i64 0, .string ⟨#[]⟩, .string ⟨#[]⟩, .int .i64 0, .int .i64 0, .int .i64 0, .int .i64 0, .int .i64 0, .bool false, .slice none 0 0] 47 (0, 0))) := heap_alloc_new w3 _
                obtain ⟨W4, eW4⟩ : ∃ W4, (w3.alloc (.cells #[.int .i64 0, .int .i64 0, .string ⟨#[]⟩, .string ⟨#[]⟩, .int .i64 0, .string ⟨#[]⟩, .int .i64 0, .int .i64 0, .string ⟨#[]⟩, .string ⟨#[]⟩, .int .i64 0, .int .i64 0, .int .i64 0, .int .i64 0, .int .i64 0, .bool false, .slice none 0 0] 47)).setRow w3.heap.size D.toArray = W4 := ⟨_, rfl⟩
                have hD : W4.heap[w3.heap.size]? = some (.cells D.toArray 47 (0, 0)) := by rw [← eW4]; exact setRow_heap _ _ _ _ _ _ HG3.out
                have b23 : Below wr.heap.size wr w3 := BW2.out.trans (b3.mono BW2.out.size)
                have hlt3 : wr.heap.size < w3.heap.size := Nat.lt_of_lt_of_le (Array.getElem?_eq_some_iff.1 R14.out).1 b3.size |> fun h => by omega
                have b4 : Below w3.heap.size w3 W4 := by
                  rw [← eW4]
                  have ba := (Below.refl w3.heap.size w3).alloc (Nat.le_refl _) (.cells #[.int .i64 0, .int .i64 0, .string ⟨#[]⟩, .string ⟨#[]⟩, .int .i64 0, .string ⟨#[]⟩, .int .i64 0, .int .i64 0, .string ⟨#[]⟩, .string ⟨#[]⟩, .int .i64 0, .int .i64 0, .int .i64 0, .int .i64 0, .int .i64 0, .bool false, .slice none 0 0] 47)
                  refine ⟨ba.os, ba.tape, ba.output, by rw [setRow_size]; exact ba.size, fun k hk => ?_⟩
                  rw [setRow_other _ _ _ _ (by omega)]
                  exact ba.block k hk
                have d8 : bk = true → W4.cell? ⟨w3.heap.size, 8, none⟩ = some (.string tid) := fun h => by
                  simp only [World.cell?, hD, ← eD]
                  rw [← hXi h]
                  rfl
                replace p0 : W4.cell? ⟨wr.heap.size, 0, none⟩ = some (.string tid) := by
                  rw [b4.cell (p := ⟨wr.heap.size, 0, none⟩) hlt3, b3.cell (p := ⟨wr.heap.size, 0, none⟩) (World.block_lt_of_cell? W2 _ p0)]
                  exact p0
                have BW4 : Hid (Below w5.heap.size w5 W4) := by
                  have h1 := hbr.out.trans (b23.mono hbr.out.size)
                  exact h1.trans (b4.mono h1.size)
                have EW4 : Hid ((w3.alloc (.cells #[.int .i64 0, .int .i64 0, .string ⟨#[]⟩, .string ⟨#[]⟩, .int .i64 0, .string ⟨#[]⟩, .int .i64 0, .int .i64 0, .string ⟨#[]⟩, .string ⟨#[]⟩, .int .i64 0, .int .i64 0, .int .i64 0, .int .i64 0, .int .i64 0, .bool false, .slice none 0 0] 47)).setRow w3.heap.size D.toArray = W4) := eW4
                have D8 : Hid (bk = true → W4.cell? ⟨w3.heap.size, 8, none⟩ = some (.string tid)) := d8
                have P0 : Hid (W4.cell? ⟨wr.heap.size, 0, none⟩ = some (.string tid)) := p0
                have hw : wrap64 ((j : Int) + 1) = ((j + 1 : Nat) : Int) := by
                  have h1 := HJ.out
                  have h2 := HNL.out
                  have h3 : N ≤ 200 := by rw [h2.1]; exact Nat.mul_le_mul h2.2.2 h2.2.1
                  unfold wrap64; omega
                have HW : Hid _ := hw
                clear hXd hXi eD eW4 hD b23 b4 d8 p0 b3 hlt3 hw
                go_wp2_with (first
                | (show wpList _ _ _ ({ dst := none, op := _, type := _, pos := _, after := _, guard := _ } :: _) _ _; refine wpList_store_row rfl 47 (.tmp 16) (.tmp 175) rfl w3.heap.size D.toArray rfl rfl 47 #[.int .i64 0, .int .i64 0, .string ⟨#[]⟩, .string ⟨#[]⟩, .int .i64 0, .string ⟨#[]⟩, .int .i64 0, .int .i64 0, .string ⟨#[]⟩, .string ⟨#[]⟩, .int .i64 0, .int .i64 0, .int .i64 0, .int .i64 0, .int .i64 0, .bool false, .slice none 0 0] HG3.out HDI.out HDS.out HDO.out ?_; rw [EW4.out]; refine Hid.out ?_))
                unfold Hid
                clear HDI HDS HDO HG3 EW4
                refine wpList_valueX (.bool bk) (by rfl) (w' := W4) (by go_simp <;> with_reducible rfl) ?_
                simp only [Act.put, List.setIfInBounds_toArray, List.set_cons_zero, List.set_cons_succ]
                refine wpList_nil ?_
                rename_i hKb
                refine hKb _ _ ?_
                clear hKb
                refine wp_seq ?_
                have hw := HW.out
                have ex := EX.out
                unfold nextC at ex
                by_cases m5 : y = 5
                · subst m5
                  rw [if_pos (by decide)] at ex
                  obtain rfl : bk = false := (congrArg Prod.snd ex).symm
                  clear ex
                  refine once24_a wr.heap.size w3.heap.size 5 tid _ _ _ _ _ _ _ _ _ _ _ _ _ _ _ _ _ _ _ _ _ _ _ _ _ _ _ _ _ _ _ _ _ _ _ _ _ _ _ _ _ _ _ _ _ _ _ _ _ _ _ _ _ _ _ _ _ _ _ _ _ _ _ _ _ _ _ _ _ _ _ _ _ _ _ _ _ _ _ _ _ _ _ _ _ _ _ _ _ _ _ _ _ _ _ _ _ _ _ _ _ _ _ _ _ _ _ _ _ _ _ _ _ _ _ _ _ _ _ _ _ _ _ _ _ _ _ _ _ _ _ _ _ _ _ _ _ _ _ _ _ _ _ _ _ _ _ _ _ _ _ _ _ _ _ _ _ _ _ _ _ _ _ _ _ _ _ _ _ _ _ _ _ _ _ _ _ _ _ _ _ _ _ _ _ _ _ _ _ _ _ _ _ _ _ _ _ W4 _ ?_
                  intro v177 v178 v179 v180 v181 v182 v183 v184 v185 v186 v187 v188 v189 v190 v191 v192 v193 v194 v195 v196 v197 v198
                  go_wp2
                  go_roundw
                  case rel => exact ⟨j + 1, HJ.out, by first | rfl | rw [hw], BW4⟩
                  case measure => (try rw [hw]); exact meas_lt N j HJ.out
                · have b5 : (y == 5) = false := by simpa using m5
                  by_cases m1 : y = 1
                  · subst m1
                    rw [if_pos (by decide)] at ex
                    obtain rfl : bk = false := (congrArg Prod.snd ex).symm
                    clear ex
                    refine once24_b wr.heap.size w3.heap.size 1 tid _ _ _ _ _ _ _ _ _ _ _ _ _ _ _ _ _ _ _ _ _ _ _ _ _ _ _ _ _ _ _ _ _ _ _ _ _ _ _ _ _ _ _ _ _ _ _ _ _ _ _ _ _ _ _ _ _ _ _ _ _ _ _ _ _ _ _ _ _ _ _ _ _ _ _ _ _ _ _ _ _ _ _ _ _ _ _ _ _ _ _ _ _ _ _ _ _ _ _ _ _ _ _ _ _ _ _ _ _ _ _ _ _ _ _ _ _ _ _ _ _ _ _ _ _ _ _ _ _ _ _ _ _ _ _ _ _ _ _ _ _ _ _ _ _ _ _ _ _ _ _ _ _ _ _ _ _ _ _ _ _ _ _ _ _ _ _ _ _ _ _ _ _ _ _ _ _ _ _ _ _ _ _ _ _ _ _ _ _ _ _ _ _ _ _ _ _ W4 _ ?_
                    intro v177 v178 v179 v180 v181 v182 v183 v184 v185 v186 v187 v188 v189 v190 v191 v192 v193 v194 v195 v196 v197 v198
                    go_wp2
                    go_roundw
                    case rel => exact ⟨j + 1, HJ.out, by first | rfl | rw [hw], BW4⟩
                    case measure => (try rw [hw]); exact meas_lt N j HJ.out
                  · have b1 : (y == 1) = false := by simpa using m1
                    by_cases m2 : y = 2
                    · subst m2
                      rw [if_pos (by decide)] at ex
                      obtain rfl : bk = false := (congrArg Prod.snd ex).symm
                      clear ex
                      refine once24_c wr.heap.size w3.heap.size 2 tid _ _ _ _ _ _ _ _ _ _ _ _ _ _ _ _ _ _ _ _ _ _ _ _ _ _ _ _ _ _ _ _ _ _ _ _ _ _ _ _ _ _ _ _ _ _ _ _ _ _ _ _ _ _ _ _ _ _ _ _ _ _ _ _ _ _ _ _ _ _ _ _ _ _ _ _ _ _ _ _ _ _ _ _ _ _ _ _ _ _ _ _ _ _ _ _ _ _ _ _ _ _ _ _ _ _ _ _ _ _ _ _ _ _ _ _ _ _ _ _ _ _ _ _ _ _ _ _ _ _ _ _ _ _ _ _ _ _ _ _ _ _ _ _ _ _ _ _ _ _ _ _ _ _ _ _ _ _ _ _ _ _ _ _ _ _ _ _ _ _ _ _ _ _ _ _ _ _ _ _ _ _ _ _ _ _ _ _ _ _ _ _ _ _ _ _ _ W4 _ ?_
                      intro v177 v178 v179 v180 v181 v182 v183 v184 v185 v186 v187 v188 v189 v190 v191 v192 v193 v194 v195 v196 v197 v198
                      go_wp2
                      go_roundw
                      case rel => exact ⟨j + 1, HJ.out, by first | rfl | rw [hw], BW4⟩
                      case measure => (try rw [hw]); exact meas_lt N j HJ.out
                    · have b2 : (y == 2) = false := by simpa using m2
                      have hmu : ¬ mute y = true := by simp [mute, m5, m1, m2]
                      rw [if_neg hmu] at ex
                      rw [if_pos hk0] at ex
                      obtain rfl : bk = true := (congrArg Prod.snd ex).symm
                      have d8 := D8.out rfl
                      have p0 := P0.out
                      clear ex
                      refine once24_d wr.heap.size w3.heap.size y tid _ _ _ _ _ _ _ _ _ _ _ _ _ _ _ _ _ _ _ _ _ _ _ _ _ _ _ _ _ _ _ _ _ _ _ _ _ _ _ _ _ _ _ _ _ _ _ _ _ _ _ _ _ _ _ _ _ _ _ _ _ _ _ _ _ _ _ _ _ _ _ _ _ _ _ _ _ _ _ _ _ _ _ _ _ _ _ _ _ _ _ _ _ _ _ _ _ _ _ _ _ _ _ _ _ _ _ _ _ _ _ _ _ _ _ _ _ _ _ _ _ _ _ _ _ _ _ _ _ _ _ _ _ _ _ _ _ _ _ _ _ _ _ _ _ _ _ _ _ _ _ _ _ _ _ _ _ _ _ _ _ _ _ _ _ _ _ _ _ _ _ _ _ _ _ _ _ _ _ _ _ _ _ _ _ _ _ _ _ _ _ _ _ _ _ _ _ W4 _ b5 b1 b2 p0 d8 ?_
                      intro v177 v178 v179 v180 v181 v182 v183 v184 v185 v186 v187 v188 v189 v190 v191 v192 v193 v194 v195 v196 v197 v198
                      go_wp2
                      go_roundw
                      case rel => exact ⟨j + 1, HJ.out, by first | rfl | rw [hw], BW4⟩
                      case measure => (try rw [hw]); exact meas_lt N j HJ.out
            · have hyl : ¬ ((j : Int) < (yn : Int)) := by omega
              cases td with
              | true =>
                have hk0 : c.k = 4 := by simpa using f6
                go_wp2_with (first
                | (show wpList _ _ _ ({ dst := some 102, op := _, type := _, pos := _, after := _, guard := _ } :: _) _ _; refine wpList_load_mid rfl 49 (.tmp 101) rfl b5 (off5 + j * 18) rfl C _ HRG.out Try.underlying49 rfl HSZ.out ?_)
                | (show wpList _ _ _ ({ dst := none, op := _, type := _, pos := _, after := _, guard := _ } :: _) _ _; refine wpList_store_row rfl 49 (.tmp 14) (.tmp 102) rfl (wr.heap.size + 1) C.toArray rfl rfl 49 #[.int .i64 0, .int .i64 0, .int .i64 0, .string ⟨#[]⟩, .string ⟨#[]⟩, .int .i64 0, .string ⟨#[]⟩, .int .i64 0, .int .i64 0, .string ⟨#[]⟩, .string ⟨#[]⟩, .int .i64 0, .int .i64 0, .int .i64 0, .int .i64 0, .int .i64 0, .bool false, .slice none 0 0] HG1.out HSZ2.out HSO.out HON.out ?_; rw [EW.out]; refine Hid.out ?_))
                unfold Hid
                clear HRG HSZ HSO HON HG1 EW y0 y1 y2 y3 y4 y5 y6 hqd hmz hmz2 hqk hqw wm
                refine wpList_nil ?_
                rename_i hKa
                refine hKa _ _ ?_
                clear hKa
                refine wp_seq ?_
                refine wp_seq ?_
                have q1k : W2.cell? ⟨wr.heap.size + 1, 1, none⟩ = some (.int .i64 4) := by rw [q1', hk0]
                refine once18_true me sh g wr.heap.size (wr.heap.size + 1) tid tto tn c.n _ _ _ _ _ _ _ _ _ _ _ _ _ _ _ _ _ _ _ _ _ _ _ _ _ _ _ _ _ _ _ _ _ _ _ _ _ _ _ _ _ _ _ _ _ _ _ _ _ _ _ _ _ _ _ _ _ _ _ _ _ _ _ _ _ _ _ _ _ _ _ _ _ _ _ _ _ _ _ _ _ _ _ _ _ _ _ _ _ _ _ _ _ _ _ _ _ _ _ _ _ _ _ _ _ _ _ _ _ _ _ _ _ _ _ _ _ _ _ _ _ _ _ _ _ _ _ _ _ _ _ _ _ _ _ _ _ _ _ _ _ _ _ _ _ _ _ _ _ _ _ _ _ _ _ _ _ _ _ _ _ _ _ _ _ _ _ _ _ _ _ _ _ _ _ _ _ _ _ _ _ _ _ _ _ _ _ _ _ _ _ _ _ _ _ _ _ W2 _ p0 p3 p4 p5 q0 q1k q9 q10 q11 f1 f2 f3 ?_
                intro v103 v104 v105 v106 v107 v108 v109 v110 v111 v112 v113 v114 v115 v116 v117 v118 v119 v120 v121 v122 v123 v124 v125 v126 v127 v128 v129 v130 v131 v132 v133 v134 v135 v136 v137 v138 v139 v140 v141 v142 v143 v144 v145 v146 v147 v148 v149 v150 v151 v152 v153 v154 v155 v156 v157 v158 v159 v160
                clear p3 p4 p5 q0 q1' q1k q9 q10 q11 f1 f2 f3 f4 f5 f6 f7
                go_wp2_with (first
                | (show wpList _ _ _ ({ dst := some 171, op := _, type := _, pos := _, after := _, guard := _ } :: _) _ _; refine wpList_load_row rfl 49 (.tmp 14) rfl (wr.heap.size + 1) rfl 49 C.toArray (0, 0) _ R14.out Try.underlying49 rfl HSZ2.out ?_))
                refine (HNX.out 0 _).mono ?_
                rintro e w3 ⟨rfl, b3⟩
                obtain ⟨X, eX⟩ : ∃ X, nextC c 0 = X := ⟨_, rfl⟩
                rw [eX]
                have hXd : X.1.data = .slice none 0 0 := by rw [← eX]; exact next_data c 0
                have hXi : X.2 = true → X.1.id = tid := fun h => by rw [← HID.out]; rw [← eX] at h ⊢; exact next_id c 0 h
                have EX : Hid (nextC c 0 = X) := eX
                clear eX
                obtain ⟨xc, bk⟩ := X
                simp only at hXd hXi ⊢
                obtain ⟨D, eD⟩ : ∃ D, xc.cells = D := ⟨_, rfl⟩
                rw [eD]
                have HDI : Hid ((Try.prog.info? 47).map (·.size) = some D.toArray.size) := by rw [List.size_toArray, ← eD, CmdV.cells17]; show _ = _; kernel_rfl
                have HDS : Hid ((#[.int .i64 0, .int .i64 0, .string ⟨#[]⟩, .string ⟨#[]⟩, .int .i64 0, .string ⟨#[]⟩, .int .i64 0, .int .i64 0, .string ⟨#[]⟩, .string ⟨#[]⟩, .int .i64 0, .int .i64 0, .int .i64 0, .int .i64 0, .int .i64 0, .bool false, .slice none 0 0] : Array Value).size = D.toArray.size) := by show (17 : Nat) = D.toArray.size; rw [List.size_toArray, ← eD, CmdV.cells17]
                have HDO : Hid (D.toArray.all (·.oneCell') = true) := by rw [← eD]; show _ = _; simp [CmdV.cells, Value.oneCell', hXd]
                have HG3 : Hid ((w3.alloc (.cells #[.int .i64 0, .int .i64 0, .string ⟨#[]⟩, .string ⟨#[]⟩, .int .i64 0, .string ⟨#[]⟩, .int .i64 0, .int .i64 0, .string ⟨#[]⟩, .string ⟨#[]⟩, .int .i64 0, .int .i64 0, .int .i64 0, .int .i64 0, .int .i64 0, .bool false, .slice none 0 0] 47)).heap[w3.heap.size]? = some (.cells #[.int .i64 0, .int .i64 0, .string ⟨#[]⟩, .string ⟨#[]⟩, .int .i64 0, .string ⟨#[]⟩, .int .i64 0, .int .i64 0, .string ⟨#[]⟩, .string ⟨#[]⟩, .int .i64 0, .int .i64 0, .int .i64 0, .int .i64 0, .int .i64 0, .bool false, .slice none 0 0] 47 (0, 0))) := heap_alloc_new w3 _
                obtain ⟨W4, eW4⟩ : ∃ W4, (w3.alloc (.cells #[.int .i64 0, .int .i64 0, .string ⟨#[]⟩, .string ⟨#[]⟩, .int .i64 0, .string ⟨#[]⟩, .int .i64 0, .int .i64 0, .string ⟨#[]⟩, .string ⟨#[]⟩, .int .i64 0, .int .i64 0, .int .i64 0, .int .i64 0, .int .i64 0, .bool false, .slice none 0 0] 47)).setRow w3.heap.size D.toArray = W4 := ⟨_, rfl⟩
                have hD : W4.heap[w3.heap.size]? = some (.cells D.toArray 47 (0, 0)) := by rw [← eW4]; exact setRow_heap _ _ _ _ _ _ HG3.out
                have b23 : Below wr.heap.size wr w3 := BW2.out.trans (b3.mono BW2.out.size)
                have hlt3 : wr.heap.size < w3.heap.size := Nat.lt_of_lt_of_le (Array.getElem?_eq_some_iff.1 R14.out).1 b3.size |> fun h => by omega
                have b4 : Below w3.heap.size w3 W4 := by
                  rw [← eW4]
                  have ba := (Below.refl w3.heap.size w3).alloc (Nat.le_refl _) (.cells #[.int .i64 0, .int .i64 0, .string ⟨#[]⟩, .string ⟨#[]⟩, .int .i64 0, .string ⟨#[]⟩, .int .i64 0, .int .i64 0, .string ⟨#[]⟩, .string ⟨#[]⟩, .int .i64 0, .int .i64 0, .int .i64 0, .int .i64 0, .int .i64 0, .bool false, .slice none 0 0] 47)
                  refine ⟨ba.os, ba.tape, ba.output, by rw [setRow_size]; exact ba.size, fun k hk => ?_⟩
                  rw [setRow_other _ _ _ _ (by omega)]
                  exact ba.block k hk
                have d8 : bk = true → W4.cell? ⟨w3.heap.size, 8, none⟩ = some (.string tid) := fun h => by
                  simp only [World.cell?, hD, ← eD]
                  rw [← hXi h]
                  rfl
                replace p0 : W4.cell? ⟨wr.heap.size, 0, none⟩ = some (.string tid) := by
                  rw [b4.cell (p := ⟨wr.heap.size, 0, none⟩) hlt3, b3.cell (p := ⟨wr.heap.size, 0, none⟩) (World.block_lt_of_cell? W2 _ p0)]
                  exact p0
                have BW4 : Hid (Below w5.heap.size w5 W4) := by
                  have h1 := hbr.out.trans (b23.mono hbr.out.size)
                  exact h1.trans (b4.mono h1.size)
                have EW4 : Hid ((w3.alloc (.cells #[.int .i64 0, .int .i64 0, .string ⟨#[]⟩, .string ⟨#[]⟩, .int .i64 0, .string ⟨#[]⟩, .int .i64 0, .int .i64 0, .string ⟨#[]⟩, .string ⟨#[]⟩, .int .i64 0, .int .i64 0, .int .i64 0, .int .i64 0, .int .i64 0, .bool false, .slice none 0 0] 47)).setRow w3.heap.size D.toArray = W4) := eW4
                have D8 : Hid (bk = true → W4.cell? ⟨w3.heap.size, 8, none⟩ = some (.string tid)) := d8
                have P0 : Hid (W4.cell? ⟨wr.heap.size, 0, none⟩ = some (.string tid)) := p0
                have hw : wrap64 ((j : Int) + 1) = ((j + 1 : Nat) : Int) := by
                  have h1 := HJ.out
                  have h2 := HNL.out
                  have h3 : N ≤ 200 := by rw [h2.1]; exact Nat.mul_le_mul h2.2.2 h2.2.1
                  unfold wrap64; omega
                have HW : Hid _ := hw
                clear hXd hXi eD eW4 hD b23 b4 d8 p0 b3 hlt3 hw
                go_wp2_with (first
                | (show wpList _ _ _ ({ dst := none, op := _, type := _, pos := _, after := _, guard := _ } :: _) _ _; refine wpList_store_row rfl 47 (.tmp 16) (.tmp 175) rfl w3.heap.size D.toArray rfl rfl 47 #[.int .i64 0, .int .i64 0, .string ⟨#[]⟩, .string ⟨#[]⟩, .int .i64 0, .string ⟨#[]⟩, .int .i64 0, .int .i64 0, .string ⟨#[]⟩, .string ⟨#[]⟩, .int .i64 0, .int .i64 0, .int .i64 0, .int .i64 0, .int .i64 0, .bool false, .slice none 0 0] HG3.out HDI.out HDS.out HDO.out ?_; rw [EW4.out]; refine Hid.out ?_))
                unfold Hid
                clear HDI HDS HDO HG3 EW4
                refine wpList_valueX (.bool bk) (by rfl) (w' := W4) (by go_simp <;> with_reducible rfl) ?_
                simp only [Act.put, List.setIfInBounds_toArray, List.set_cons_zero, List.set_cons_succ]
                refine wpList_nil ?_
                rename_i hKb
                refine hKb _ _ ?_
                clear hKb
                refine wp_seq ?_
                have hw := HW.out
                have ex := EX.out
                unfold nextC at ex
                have b5 : ((0 : Int) == 5) = false := rfl
                have b1 : ((0 : Int) == 1) = false := rfl
                have b2 : ((0 : Int) == 2) = false := rfl
                rw [if_neg (by decide), if_neg (by rw [hk0]; decide), if_pos ⟨hk0, rfl⟩] at ex
                obtain rfl : bk = true := (congrArg Prod.snd ex).symm
                have d8 := D8.out rfl
                have p0 := P0.out
                clear ex
                refine once24_d wr.heap.size w3.heap.size 0 tid _ _ _ _ _ _ _ _ _ _ _ _ _ _ _ _ _ _ _ _ _ _ _ _ _ _ _ _ _ _ _ _ _ _ _ _ _ _ _ _ _ _ _ _ _ _ _ _ _ _ _ _ _ _ _ _ _ _ _ _ _ _ _ _ _ _ _ _ _ _ _ _ _ _ _ _ _ _ _ _ _ _ _ _ _ _ _ _ _ _ _ _ _ _ _ _ _ _ _ _ _ _ _ _ _ _ _ _ _ _ _ _ _ _ _ _ _ _ _ _ _ _ _ _ _ _ _ _ _ _ _ _ _ _ _ _ _ _ _ _ _ _ _ _ _ _ _ _ _ _ _ _ _ _ _ _ _ _ _ _ _ _ _ _ _ _ _ _ _ _ _ _ _ _ _ _ _ _ _ _ _ _ _ _ _ _ _ _ _ _ _ _ _ _ _ _ _ W4 _ b5 b1 b2 p0 d8 ?_
                intro v177 v178 v179 v180 v181 v182 v183 v184 v185 v186 v187 v188 v189 v190 v191 v192 v193 v194 v195 v196 v197 v198
                go_wp2
                go_roundw
                case rel => exact ⟨j + 1, HJ.out, by first | rfl | rw [hw], BW4⟩
                case measure => (try rw [hw]); exact meas_lt N j HJ.out
              | false =>
                have hk0 : c.k = 2 := (HCK.out rfl).1
                obtain ⟨e1, e2⟩ := HCK.out rfl
                have f8 : (c.k != 2) = false := by simpa using e1
                have f9 : (c.n != tn) = false := by simpa using e2
                clear e1 e2
                go_wp2_with (first
                | (show wpList _ _ _ ({ dst := some 102, op := _, type := _, pos := _, after := _, guard := _ } :: _) _ _; refine wpList_load_mid rfl 49 (.tmp 101) rfl b5 (off5 + j * 18) rfl C _ HRG.out Try.underlying49 rfl HSZ.out ?_)
                | (show wpList _ _ _ ({ dst := none, op := _, type := _, pos := _, after := _, guard := _ } :: _) _ _; refine wpList_store_row rfl 49 (.tmp 14) (.tmp 102) rfl (wr.heap.size + 1) C.toArray rfl rfl 49 #[.int .i64 0, .int .i64 0, .int .i64 0, .string ⟨#[]⟩, .string ⟨#[]⟩, .int .i64 0, .string ⟨#[]⟩, .int .i64 0, .int .i64 0, .string ⟨#[]⟩, .string ⟨#[]⟩, .int .i64 0, .int .i64 0, .int .i64 0, .int .i64 0, .int .i64 0, .bool false, .slice none 0 0] HG1.out HSZ2.out HSO.out HON.out ?_; rw [EW.out]; refine Hid.out ?_))
                unfold Hid
                clear HRG HSZ HSO HON HG1 EW y0 y1 y2 y3 y4 y5 y6 hqd hmz hmz2 hqk hqw wm
                refine wpList_nil ?_
                rename_i hKa
                refine hKa _ _ ?_
                clear hKa
                refine wp_seq ?_
                refine wp_seq ?_
                have q1k : W2.cell? ⟨wr.heap.size + 1, 1, none⟩ = some (.int .i64 2) := by rw [q1', hk0]
                refine once18_false me sh g wr.heap.size (wr.heap.size + 1) tid tto tn c.n _ _ _ _ _ _ _ _ _ _ _ _ _ _ _ _ _ _ _ _ _ _ _ _ _ _ _ _ _ _ _ _ _ _ _ _ _ _ _ _ _ _ _ _ _ _ _ _ _ _ _ _ _ _ _ _ _ _ _ _ _ _ _ _ _ _ _ _ _ _ _ _ _ _ _ _ _ _ _ _ _ _ _ _ _ _ _ _ _ _ _ _ _ _ _ _ _ _ _ _ _ _ _ _ _ _ _ _ _ _ _ _ _ _ _ _ _ _ _ _ _ _ _ _ _ _ _ _ _ _ _ _ _ _ _ _ _ _ _ _ _ _ _ _ _ _ _ _ _ _ _ _ _ _ _ _ _ _ _ _ _ _ _ _ _ _ _ _ _ _ _ _ _ _ _ _ _ _ _ _ _ _ _ _ _ _ _ _ _ _ _ _ _ _ _ _ _ W2 _ p0 p3 p4 p5 q0 q1k q9 q10 q11 f1 f2 f3 f9 ?_
                intro v103 v104 v105 v106 v107 v108 v109 v110 v111 v112 v113 v114 v115 v116 v117 v118 v119 v120 v121 v122 v123 v124 v125 v126 v127 v128 v129 v130 v131 v132 v133 v134 v135 v136 v137 v138 v139 v140 v141 v142 v143 v144 v145 v146 v147 v148 v149 v150 v151 v152 v153 v154 v155 v156 v157 v158 v159 v160
                clear p3 p4 p5 q0 q1' q1k q9 q10 q11 f1 f2 f3 f4 f5 f6 f7
                go_wp2_with (first
                | (show wpList _ _ _ ({ dst := some 171, op := _, type := _, pos := _, after := _, guard := _ } :: _) _ _; refine wpList_load_row rfl 49 (.tmp 14) rfl (wr.heap.size + 1) rfl 49 C.toArray (0, 0) _ R14.out Try.underlying49 rfl HSZ2.out ?_))
                refine (HNX.out 0 _).mono ?_
                rintro e w3 ⟨rfl, b3⟩
                obtain ⟨X, eX⟩ : ∃ X, nextC c 0 = X := ⟨_, rfl⟩
                rw [eX]
                have hXd : X.1.data = .slice none 0 0 := by rw [← eX]; exact next_data c 0
                have hXi : X.2 = true → X.1.id = tid := fun h => by rw [← HID.out]; rw [← eX] at h ⊢; exact next_id c 0 h
                have EX : Hid (nextC c 0 = X) := eX
                clear eX
                obtain ⟨xc, bk⟩ := X
                simp only at hXd hXi ⊢
                obtain ⟨D, eD⟩ : ∃ D, xc.cells = D := ⟨_, rfl⟩
                rw [eD]
                have HDI : Hid ((Try.prog.info? 47).map (·.size) = some D.toArray.size) := by rw [List.size_toArray, ← eD, CmdV.cells17]; show _ = _; kernel_rfl
                have HDS : Hid ((#[.int .i64 0, .int .i64 0, .string ⟨#[]⟩, .string ⟨#[]⟩, .int .i64 0, .string ⟨#[]⟩, .int .i64 0, .int .i64 0, .string ⟨#[]⟩, .string ⟨#[]⟩, .int .i64 0, .int .i64 0, .int .i64 0, .int .i64 0, .int .i64 0, .bool false, .slice none 0 0] : Array Value).size = D.toArray.size) := by show (17 : Nat) = D.toArray.size; rw [List.size_toArray, ← eD, CmdV.cells17]
                have HDO : Hid (D.toArray.all (·.oneCell') = true) := by rw [← eD]; show _ = _; simp [CmdV.cells, Value.oneCell', hXd]
                have HG3 : Hid ((w3.alloc (.cells #[.int .i64 0, .int .i64 0, .string ⟨#[]⟩, .string ⟨#[]⟩, .int .i64 0, .string ⟨#[]⟩, .int .i64 0, .int .i64 0, .string ⟨#[]⟩, .string ⟨#[]⟩, .int .i64 0, .int .i64 0, .int .i64 0, .int .i64 0, .int .i64 0, .bool false, .slice none 0 0] 47)).heap[w3.heap.size]? = some (.cells #[.int .i64 0, .int .i64 0, .string ⟨#[]⟩, .string ⟨#[]⟩, .int .i64 0, .string ⟨#[]⟩, .int .i64 0, .int .i64 0, .string ⟨#[]⟩, .string ⟨#[]⟩, .int .i64 0, .int .i64 0, .int .i64 0, .int .i64 0, .int .i64 0, .bool false, .slice none 0 0] 47 (0, 0))) := heap_alloc_new w3 _
                obtain ⟨W4, eW4⟩ : ∃ W4, (w3.alloc (.cells #[.int .i64 0, .int .i64 0, .string ⟨#[]⟩, .string ⟨#[]⟩, .int .i64 0, .string ⟨#[]⟩, .int .i64 0, .int .i64 0, .string ⟨#[]⟩, .string ⟨#[]⟩, .int .i64 0, .int .i64 0, .int .i64 0, .int .i64 0, .int .i64 0, .bool false, .slice none 0 0] 47)).setRow w3.heap.size D.toArray = W4 := ⟨_, rfl⟩
                have hD : W4.heap[w3.heap.size]? = some (.cells D.toArray 47 (0, 0)) := by rw [← eW4]; exact setRow_heap _ _ _ _ _ _ HG3.out
                have b23 : Below wr.heap.size wr w3 := BW2.out.trans (b3.mono BW2.out.size)
                have hlt3 : wr.heap.size < w3.heap.size := Nat.lt_of_lt_of_le (Array.getElem?_eq_some_iff.1 R14.out).1 b3.size |> fun h => by omega
                have b4 : Below w3.heap.size w3 W4 := by
                  rw [← eW4]
                  have ba := (Below.refl w3.heap.size w3).alloc (Nat.le_refl _) (.cells #[.int .i64 0, .int .i64 0, .string ⟨#[]⟩, .string ⟨#[]⟩, .int .i64 0, .string ⟨#[]⟩, .int .i64 0, .int .i64 0, .string ⟨#[]⟩, .string ⟨#[]⟩, .int .i64 0, .int .i64 0, .int .i64 0, .int .i64 0, .int .i64 0, .bool false, .slice none 0 0] 47)
                  refine ⟨ba.os, ba.tape, ba.output, by rw [setRow_size]; exact ba.size, fun k hk => ?_⟩
                  rw [setRow_other _ _ _ _ (by omega)]
                  exact ba.block k hk
                have d8 : bk = true → W4.cell? ⟨w3.heap.size, 8, none⟩ = some (.string tid) := fun h => by
                  simp only [World.cell?, hD, ← eD]
                  rw [← hXi h]
                  rfl
                replace p0 : W4.cell? ⟨wr.heap.size, 0, none⟩ = some (.string tid) := by
                  rw [b4.cell (p := ⟨wr.heap.size, 0, none⟩) hlt3, b3.cell (p := ⟨wr.heap.size, 0, none⟩) (World.block_lt_of_cell? W2 _ p0)]
                  exact p0
                have BW4 : Hid (Below w5.heap.size w5 W4) := by
                  have h1 := hbr.out.trans (b23.mono hbr.out.size)
                  exact h1.trans (b4.mono h1.size)
                have EW4 : Hid ((w3.alloc (.cells #[.int .i64 0, .int .i64 0, .string ⟨#[]⟩, .string ⟨#[]⟩, .int .i64 0, .string ⟨#[]⟩, .int .i64 0, .int .i64 0, .string ⟨#[]⟩, .string ⟨#[]⟩, .int .i64 0, .int .i64 0, .int .i64 0, .int .i64 0, .int .i64 0, .bool false, .slice none 0 0] 47)).setRow w3.heap.size D.toArray = W4) := eW4
                have D8 : Hid (bk = true → W4.cell? ⟨w3.heap.size, 8, none⟩ = some (.string tid)) := d8
                have P0 : Hid (W4.cell? ⟨wr.heap.size, 0, none⟩ = some (.string tid)) := p0
                have hw : wrap64 ((j : Int) + 1) = ((j + 1 : Nat) : Int) := by
                  have h1 := HJ.out
                  have h2 := HNL.out
                  have h3 : N ≤ 200 := by rw [h2.1]; exact Nat.mul_le_mul h2.2.2 h2.2.1
                  unfold wrap64; omega
                have HW : Hid _ := hw
                clear hXd hXi eD eW4 hD b23 b4 d8 p0 b3 hlt3 hw
                go_wp2_with (first
                | (show wpList _ _ _ ({ dst := none, op := _, type := _, pos := _, after := _, guard := _ } :: _) _ _; refine wpList_store_row rfl 47 (.tmp 16) (.tmp 175) rfl w3.heap.size D.toArray rfl rfl 47 #[.int .i64 0, .int .i64 0, .string ⟨#[]⟩, .string ⟨#[]⟩, .int .i64 0, .string ⟨#[]⟩, .int .i64 0, .int .i64 0, .string ⟨#[]⟩, .string ⟨#[]⟩, .int .i64 0, .int .i64 0, .int .i64 0, .int .i64 0, .int .i64 0, .bool false, .slice none 0 0] HG3.out HDI.out HDS.out HDO.out ?_; rw [EW4.out]; refine Hid.out ?_))
                unfold Hid
                clear HDI HDS HDO HG3 EW4
                refine wpList_valueX (.bool bk) (by rfl) (w' := W4) (by go_simp <;> with_reducible rfl) ?_
                simp only [Act.put, List.setIfInBounds_toArray, List.set_cons_zero, List.set_cons_succ]
                refine wpList_nil ?_
                rename_i hKb
                refine hKb _ _ ?_
                clear hKb
                refine wp_seq ?_
                have hw := HW.out
                have ex := EX.out
                unfold nextC at ex
                have b5 : ((0 : Int) == 5) = false := rfl
                have b1 : ((0 : Int) == 1) = false := rfl
                have b2 : ((0 : Int) == 2) = false := rfl
                rw [if_neg (by decide), if_pos hk0] at ex
                obtain rfl : bk = true := (congrArg Prod.snd ex).symm
                have d8 := D8.out rfl
                have p0 := P0.out
                clear ex
                refine once24_d wr.heap.size w3.heap.size 0 tid _ _ _ _ _ _ _ _ _ _ _ _ _ _ _ _ _ _ _ _ _ _ _ _ _ _ _ _ _ _ _ _ _ _ _ _ _ _ _ _ _ _ _ _ _ _ _ _ _ _ _ _ _ _ _ _ _ _ _ _ _ _ _ _ _ _ _ _ _ _ _ _ _ _ _ _ _ _ _ _ _ _ _ _ _ _ _ _ _ _ _ _ _ _ _ _ _ _ _ _ _ _ _ _ _ _ _ _ _ _ _ _ _ _ _ _ _ _ _ _ _ _ _ _ _ _ _ _ _ _ _ _ _ _ _ _ _ _ _ _ _ _ _ _ _ _ _ _ _ _ _ _ _ _ _ _ _ _ _ _ _ _ _ _ _ _ _ _ _ _ _ _ _ _ _ _ _ _ _ _ _ _ _ _ _ _ _ _ _ _ _ _ _ _ _ _ _ W4 _ b5 b1 b2 p0 d8 ?_
                intro v177 v178 v179 v180 v181 v182 v183 v184 v185 v186 v187 v188 v189 v190 v191 v192 v193 v194 v195 v196 v197 v198
                go_wp2
                go_roundw
                case rel => exact ⟨j + 1, HJ.out, by first | rfl | rw [hw], BW4⟩
                case measure => (try rw [hw]); exact meas_lt N j HJ.out
          · obtain rfl : j = N := by omega
            have HK := knownX_any wr
            go_wp2_with fail
            refine HK.mono ?_
            rintro e w9 ⟨rfl, b9⟩
            go_wp2
            go_ret
            have hBr : Below w'.heap.size w' wr := B5.out.trans (hbr.out.mono B5.out.size)
            exact ⟨rfl, hBr.trans (b9.mono hBr.size)⟩
end Go.Proofs.Ytaefocmmdlonnaa
