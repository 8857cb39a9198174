/- Package auditor: asks. -/
import Derived.Test.YtckldjiabalgbaaALeft
import Derived.Great.BuildSlice
namespace Go.Proofs.Ytckldjiabalgbaa
open Go.RowKit
attribute [local go_sem] Oper.semAt_some
set_option linter.unusedVariables false

theorem info_askA : (Try.prog.info? 53).map (fun i => (i.zero, i.size, i.bytes)) = some (some (.agg (AskV.cells (0, CmdV.zero)).toArray), 18, 200) := by kernel_rfl
theorem one_askA (x : AskV) (h : x.2.data.oneCell' = true) : ∀ u ∈ AskV.cells x, u.oneCell' = true := fun u hu => by
  obtain ⟨g, c⟩ := x
  simp only [AskV.cells, CmdV.cells, List.mem_cons, List.not_mem_nil, or_false] at hu
  rcases hu with rfl | rfl | rfl | rfl | rfl | rfl | rfl | rfl | rfl | rfl | rfl | rfl | rfl | rfl | rfl | rfl | rfl | rfl <;> first | rfl | exact h
theorem run_append_askA (w : World) (base : Nat) (v : Value) (L : List AskV) (hown : w.ownsRow base 53 18 v L.length (flat AskV.cells L)) (x : AskV) (hx : x.2.data.oneCell' = true) (hb : L.length ≤ 4000) (hbase : base ≤ w.heap.size) :
    ∃ v' w', (Builtin.append_ #[57, 57] 57 #[v, .slice (some ⟨w.heap.size, 0, none⟩) 1 1]).run Try.prog (w.alloc (.cells (AskV.cells x).toArray 53)) = .ok v' w' ∧ w'.ownsRow base 53 18 v' (L ++ [x]).length (flat AskV.cells (L ++ [x])) ∧ (w.alloc (.cells (AskV.cells x).toArray 53)).grownBy w' v.ownBlock := by
  obtain ⟨i0, hi, hz0, hz1, hz2⟩ := info_parts info_askA
  obtain ⟨v', w', hr, h1, h2, _⟩ := run_append_own (P := Try.prog) (w.alloc (.cells (AskV.cells x).toArray 53)) base 57 57 53 i0 _ 18 200 Try.underlying57 hi hz0 hz1 hz2 rfl (by omega) v L.length _ (hown.alloc _) ⟨w.heap.size, 0, none⟩ 1 1 (AskV.cells x) (by simp [askCells18]) (fun j u hj => by
    rw [Addr.add_lit, Nat.zero_add, World.cell?_alloc_mark]
    simpa using hj) (one_askA x hx) (by unfold maxLen; omega) (by omega) (by simp; omega)
  exact ⟨v', w', hr, by rw [List.length_append, flat_append]; simpa [flat] using h1, h2⟩
theorem exec_sliceA {a : Act} {o : Oper} {x : Operand} {c0 c1 c2 c3 c4 c5 c6 c7 c8 c9 c10 c11 c12 c13 c14 c15 c16 c17 : Value} (w : World) (ho : o.op = .buildSlice 57 1 #[(0, x)]) (hx : a.eval x = .agg #[c0, c1, c2, c3, c4, c5, c6, c7, c8, c9, c10, c11, c12, c13, c14, c15, c16, c17]) : (execOp a.eval o).run Try.prog w = .ok (.value (.slice (some ⟨w.heap.size, 0, none⟩) 1 1)) (w.alloc (.cells #[c0, c1, c2, c3, c4, c5, c6, c7, c8, c9, c10, c11, c12, c13, c14, c15, c16, c17] 53)) := by
  unfold execOp
  simp only [ho, List.map_toArray, List.map_cons, List.map_nil, hx]
  kernel_rfl
theorem wpList_valA {P : Program} {w w' : World} {ops : Array Oper} {rest : List Oper} {o : Oper} {a : Act} {Q : Exit → Act → World → Prop} (v : Value) (hgd : o.guard = none) (hx : (execOp a.eval o).run P w = .ok (.value v) w') (h : wpList P ops Q rest (a.put o.dst v) w') : wpList P ops Q (o :: rest) a w :=
  wpList_plain hgd fun K hK => by
    unfold Oper.wp
    rw [hx, Oper.upon_value]
    exact hK _ _ h
/-- What is asked of each of the first ones that has not answered. -/
def askA (D : AuD) (kd : Int) (k : Nat) : AskV := ((k : Int) + 1, { CmdV.zero with k := kd, ep := D.n })
def asksA (D : AuD) (kd : Int) : Nat → List AskV
  | 0 => []
  | i + 1 => asksA D kd i ++ (if ansD D i = true then [] else [askA D kd i])
theorem asksA_len (D : AuD) (kd : Int) : ∀ i, (asksA D kd i).length ≤ i
  | 0 => Nat.le_refl _
  | i + 1 => by
    have := asksA_len D kd i
    unfold asksA
    split <;> simp <;> omega
theorem askA_cells (D : AuD) (kd : Int) (k : Nat) : AskV.cells (askA D kd k) = [.int .i64 ((k : Int) + 1), .int .i64 kd, .int .i64 0, .string ⟨#[]⟩, .string ⟨#[]⟩, .int .i64 0, .string ⟨#[]⟩, .int .i64 0, .int .i64 0, .string ⟨#[]⟩, .string ⟨#[]⟩, .int .i64 0, .int .i64 0, .int .i64 0, .int .i64 D.n, .int .i64 0, .bool false, .slice none 0 0] := rfl
structure AIo (w0 w : World) (v : Value) (L : List AskV) : Prop where
  b : Below w0.heap.size w0 w
  row : w.ownsRow w0.heap.size 53 18 v L.length (flat AskV.cells L)
theorem asks_none {w : World} {G : Nat} {D : AuD} (h : AuIn w G D) (hp : ¬ (D.ph = 1 ∨ D.ph = 2)) : Calls Try.prog 30 #[.pointer (some ⟨G, 0, none⟩)] w fun e w' => e = .returned (.slice none 0 0) ∧ w' = w := by
  have c2 : w.cell? ⟨G, 2, none⟩ = some (.int .i64 D.ph) := by simp only [AuIn] at h; simp [World.cell?, h]
  have HD := duty_any D.ph w
  rw [show decide (D.ph = 1 ∨ D.ph = 2) = false by simpa using hp, if_neg (fun e => hp (.inl e)), if_neg (fun e => hp (.inr e))] at HD
  clear h hp
  go_enter Try.func30, Try.ntmps30
  go_wp2_with fail
  refine HD.mono ?_
  rintro e w1 ⟨rfl, rfl⟩
  clear HD
  go_wp2
  go_ret
  exact ⟨rfl, rfl⟩
set_option maxRecDepth 100000 in
set_option maxHeartbeats 4000000 in
theorem asks_some {w : World} {G : Nat} {D : AuD} (h : AuIn w G D) {S : Nat} (hS : D.sh = S) (h1 : 1 ≤ S) (h3 : S ≤ 3) {kd : Int} (hp : D.ph = 1 ∧ kd = 6 ∨ D.ph = 2 ∧ kd = 7) : Calls Try.prog 30 #[.pointer (some ⟨G, 0, none⟩)] w fun e w' => ∃ v, e = .returned v ∧ w'.ownsRow w.heap.size 53 18 v (asksA D kd S).length (flat AskV.cells (asksA D kd S)) ∧ Below w.heap.size w w' := by
  have HD := duty_any D.ph w
  have e1 : (if D.ph = 1 then (6 : Int) else if D.ph = 2 then 7 else 0) = kd := by
    rcases hp with ⟨e1, e2⟩ | ⟨e1, e2⟩ <;> rw [e1, e2] <;> rfl
  have e2 : decide (D.ph = 1 ∨ D.ph = 2) = true := by
    rcases hp with ⟨e1, _⟩ | ⟨e1, _⟩ <;> rw [e1] <;> rfl
  rw [e1, e2] at HD
  have c2 : w.cell? ⟨G, 2, none⟩ = some (.int .i64 D.ph) := by simp only [AuIn] at h; simp [World.cell?, h]
  have HC : Hid (∀ i, Calls Try.prog 22 #[.pointer (some ⟨G, 0, none⟩)] (w.drewN i) fun e w' => e = .returned (.int .i64 (S : Int)) ∧ w' = w.drewN i) := fun i => by
    have := countA_any (h.drewN i) (by rw [hS]; omega)
    rw [hS] at this
    exact this
  have HA : Hid (AuIn w G D) := h
  have H1 : Hid (1 ≤ S ∧ S ≤ 3) := ⟨h1, h3⟩
  have hb1 : (S : Int) ≤ 3 := by omega
  have hb0 : 0 ≤ (S : Int) := by omega
  clear h hS h1 h3 hp e1 e2
  go_enter Try.func30, Try.ntmps30
  go_wp2_with fail
  refine HD.mono ?_
  rintro e w1 ⟨rfl, hw1⟩
  subst w1
  clear HD
  go_wp2_with fail
  go_quiet (exact Calls.quiet_of_same (HC.out _))
  clear HC c2
  go_wp2_with fail
  have BN : Hid (Below w.heap.size w (w.drewN nq)) := below_drewN (Below.refl _ w) nq
  generalize w.drewN nq = wn at *
  go_loopw [5, 25] (fun v i wr => ∃ k : Nat, k ≤ S ∧ i = .int .i64 (k : Int) ∧ Hid (AIo w wr v (asksA D kd k))) (fun _ i _ => S - (intOf i).toNat)
  case atStart => exact ⟨0, Nat.zero_le _, rfl, BN.out, World.ownsRow_nil _ _ _ _⟩
  case round =>
    obtain ⟨k, hk, rfl, hI⟩ := hrel
    have hk3 : k ≤ 3 := Nat.le_trans hk H1.out.2
    by_cases hlt : k < S
    · have hki : (k : Int) < (S : Int) := by omega
      have hG := World.block_lt_of_cell? w _ (HA.out.ans (i := 0) (by omega))
      have ca : wr.cell? ⟨G, 3 + k, none⟩ = some (.bool (ansD D k)) := (hI.out.b.cell (p := ⟨G, 3 + k, none⟩) hG).trans (HA.out.ans (by omega))
      have cn : wr.cell? ⟨G, 1, none⟩ = some (.int .i64 D.n) := by
        have h := HA.out
        simp only [AuIn] at h
        exact (hI.out.b.cell (p := ⟨G, 1, none⟩) hG).trans (by simp [World.cell?, h])
      have HJ : Hid (k + 1 ≤ S) := hlt
      have HU : Hid (asksA D kd (k + 1) = asksA D kd k ++ (if ansD D k = true then [] else [askA D kd k])) := rfl
      cases ha : ansD D k with
      | true =>
        rw [ha] at ca HU
        have NX : Hid (AIo w wr u5 (asksA D kd (k + 1))) := by
          show AIo _ _ _ _
          rw [HU.out, if_pos rfl, List.append_nil]
          exact hI.out
        clear HU ha hI hk hlt hG cn
        go_wp2
        go_roundw
        case rel => exact ⟨k + 1, HJ.out, by go_num, NX⟩
        case measure => have := HJ.out; simp only [intOf]; omega
      | false =>
        rw [ha] at ca HU
        obtain ⟨v2, w2, hrun, hrow, hgr⟩ := run_append_askA wr w.heap.size u5 _ hI.out.row (askA D kd k) (by rfl) (by have := asksA_len D kd k; omega) hI.out.b.size
        rw [askA_cells] at hrun hgr
        have bA : Below wr.heap.size wr (wr.alloc (.cells #[.int .i64 ((k : Int) + 1), .int .i64 kd, .int .i64 0, .string ⟨#[]⟩, .string ⟨#[]⟩, .int .i64 0, .string ⟨#[]⟩, .int .i64 0, .int .i64 0, .string ⟨#[]⟩, .string ⟨#[]⟩, .int .i64 0, .int .i64 0, .int .i64 0, .int .i64 D.n, .int .i64 0, .bool false, .slice none 0 0] 53)) := (Below.refl _ wr).alloc (Nat.le_refl _) _
        have bb : Below w.heap.size w w2 := (hI.out.b.trans (bA.mono hI.out.b.size)).grown hgr (Nat.le_trans hI.out.b.size bA.size) (fun j e => (row_kind hI.out.row e).1)
        have NX : Hid (AIo w w2 v2 (asksA D kd (k + 1))) := by
          show AIo _ _ _ _
          rw [HU.out, if_neg (by decide)]
          exact ⟨bb, hrow⟩
        have HRUN : Hid _ := hrun
        clear HU ha hI hk hlt hG hrun hrow hgr bA bb
        go_wp2_with (first
          | (refine wpList_buildTo rfl 50 _ rfl (some 40) rfl #[.int .i64 kd, .int .i64 0, .string ⟨#[]⟩, .string ⟨#[]⟩, .int .i64 0, .string ⟨#[]⟩, .int .i64 0, .int .i64 0, .string ⟨#[]⟩, .string ⟨#[]⟩, .int .i64 0, .int .i64 0, .int .i64 0, .int .i64 D.n, .int .i64 0, .bool false, .slice none 0 0] (by kernel_rfl) ?_)
          | (refine wpList_buildTo rfl 53 _ rfl (some 41) rfl #[.int .i64 ((k : Int) + 1), .int .i64 kd, .int .i64 0, .string ⟨#[]⟩, .string ⟨#[]⟩, .int .i64 0, .string ⟨#[]⟩, .int .i64 0, .int .i64 0, .string ⟨#[]⟩, .string ⟨#[]⟩, .int .i64 0, .int .i64 0, .int .i64 0, .int .i64 D.n, .int .i64 0, .bool false, .slice none 0 0] (by kernel_rfl) ?_)
          | (refine wpList_valA _ rfl (exec_sliceA (x := .tmp 41) _ rfl rfl) ?_)
          | (refine wpList_append_known rfl (.tmp 32) (.tmp 42) 57 57 rfl u5 (.slice (some ⟨wr.heap.size, 0, none⟩) 1 1) rfl rfl v2 w2 HRUN.out ?_))
        go_roundw
        case rel => exact ⟨k + 1, HJ.out, by go_num, NX⟩
        case measure => have := HJ.out; simp only [intOf]; omega
    · obtain rfl : k = S := by omega
      have hki : ¬ (k : Int) < (k : Int) := by omega
      clear hlt hk
      go_wp2
      go_ret
      exact ⟨_, rfl, hI.out.row, hI.out.b⟩
end Go.Proofs.Ytckldjiabalgbaa
