/- What getRow and GetReply do. -/
import Derived.Test.YtdchnfggmkokhaaDoorGetOp
import Derived.Deep.AppendLies
import Derived.Deep.RegionLaw
import Derived.Test.YtdchnfggmkokhaaDoorGP
import Derived.Test.YtdchnfggmkokhaaDoorSteps
import Derived.Test.YtdchnfggmkokhaaDoorGN
namespace Go.Proofs.YtdchnfggmkokhaaDoor
open Go.RowKit Cod
set_option linter.unusedVariables false

/-- Rows as cells. -/
def rowCells (rows : List (ByteArray × Int)) : List Value := rows.flatMap fun r => [.string r.1, .int .i64 r.2]
theorem rowCells_snoc (rows : List (ByteArray × Int)) (r : ByteArray × Int) : rowCells (rows ++ [r]) = rowCells rows ++ [.string r.1, .int .i64 r.2] := by simp [rowCells]
theorem rowCells_get : ∀ (rows : List (ByteArray × Int)) (j : Nat) (hj : j < rows.length), (rowCells rows)[j * 2]? = some (.string rows[j].1) ∧ (rowCells rows)[j * 2 + 1]? = some (.int .i64 rows[j].2)
  | r :: rest, 0, _ => by simp [rowCells]
  | r :: rest, j + 1, hj => by
    have ih := rowCells_get rest j (by simpa using hj)
    have e1 : (j + 1) * 2 = j * 2 + 1 + 1 := by omega
    simp only [rowCells, List.flatMap_cons, List.cons_append, List.nil_append, e1, List.getElem?_cons_succ, List.getElem_cons_succ] at ih ⊢
    exact ih
theorem rows_owned {w : World} {base n : Nat} {a : Option Addr} {k cap : Nat} {rows : List (ByteArray × Int)} (h : w.ownsRow base 59 2 (.slice a k cap) n (rowCells rows)) (hl : rows.length = n) (hm : n ≤ 140737488355328) : RowsAt w a k rows := by
  rcases h.2 with ⟨e, rfl⟩ | ⟨g, c, cur, e, hg, hcell, hnc, hcm, hcs, htake⟩
  · cases e
    exact ⟨hl.symm, by omega, .inl rfl⟩
  · cases e
    refine ⟨hl.symm, by omega, ?_⟩
    by_cases h0 : n = 0
    · exact .inl h0
    · refine .inr ⟨g, 0, rfl, fun j hj => ?_⟩
      obtain ⟨h1, h2⟩ := rowCells_get rows j hj
      rw [← htake] at h1 h2
      rw [List.getElem?_take] at h1 h2
      rw [if_pos (by omega)] at h1
      rw [if_pos (by omega)] at h2
      simp only [World.cell?, hcell, Nat.zero_add]
      exact ⟨by simpa using h1, by simpa using h2⟩
theorem owns_far {w w' : World} {base R n size : Nat} {e : TypeId} {v : Value} {xs : List Value} (h : w.ownsRow base e size v n xs) (hg : w.grownBy w' (some R)) (hR : R < base) : w'.ownsRow base e size v n xs := by
  refine ⟨h.1, h.2.imp id ?_⟩
  rintro ⟨g, cap, cur, e1, e2, e3, e4⟩
  refine ⟨g, cap, cur, e1, e2, ?_, e4⟩
  rw [hg.block g (Array.getElem?_eq_some_iff.1 e3).1 (fun e => by have := Option.some.inj e; omega)]
  exact e3
theorem owns_set {w : World} {base n size : Nat} {e : TypeId} {v : Value} {xs : List Value} (h : w.ownsRow base e size v n xs) (a : Addr) (u : Value) (ha : a.block < base) : (w.setCell a u).ownsRow base e size v n xs := by
  refine ⟨h.1, h.2.imp id ?_⟩
  rintro ⟨g, cap, cur, e1, e2, e3, e4⟩
  refine ⟨g, cap, cur, e1, e2, ?_, e4⟩
  rw [Below.heap_setCell _ _ _ g (fun e => by omega)]
  exact e3
theorem st_alloc {w : World} {a : Addr} {v : Value} (o : Obj) (h : w.cell? a = some v ∧ w.frozen? a = false) : (w.alloc o).cell? a = some v ∧ (w.alloc o).frozen? a = false := by
  have hb : (w.alloc o).heap[a.block]? = w.heap[a.block]? := Below.heap_alloc w o a.block (World.block_lt_of_cell? w _ h.1)
  rw [World.cell?_of_block hb, World.frozen?_of_block hb]
  exact h
theorem st_grown {w w' : World} {row : Option Nat} {a : Addr} {v : Value} (hg : w.grownBy w' row) (hne : some a.block ≠ row) (h : w.cell? a = some v ∧ w.frozen? a = false) : w'.cell? a = some v ∧ w'.frozen? a = false := by
  have hl := World.block_lt_of_cell? w _ h.1
  rw [hg.cell_far a hl hne, hg.frozen_far a hl hne]
  exact h
theorem info_row : (Tryd.prog.info? 59).map (fun i => (i.zero, i.size, i.bytes)) = some (some (.agg #[.string ⟨#[]⟩, .int .i64 0]), 2, 24) := by kernel_rfl
end Go.Proofs.YtdchnfggmkokhaaDoor

namespace Go.Proofs.YtdchnfggmkokhaaDoor
open Go.RowKit Cod
set_option linter.unusedVariables false
set_option linter.unusedSimpArgs false

theorem RRd.keep {w w' : World} {R A B : Nat} {l : List (BitVec 8)} {at_ why : Nat} (h : RRd w R A B l at_ why) (hb : Below w.heap.size w w') : RRd w' R A B l at_ why := by
  obtain ⟨a, cap, hh, hs, h3⟩ := h
  exact ⟨a, cap, (hb.block R (Array.getElem?_eq_some_iff.1 hh).1).trans hh, hs.below hb, h3⟩
theorem exec_append {P : Program} {o : Oper} {a : Act} {w w' : World} {v u x : Value} (s y : Operand) (t : TypeId) (ho : o.op = .call { callee := .builtin .append, args := #[s, y], argTypes := #[t, t] }) (hs : a.eval s = u) (hx : a.eval y = x) (hr : (Builtin.append_ #[t, t] o.type #[u, x]).run P w = .ok v w') : (execOp a.eval o).run P w = .ok (.value v) w' := by
  unfold execOp
  simp only [ho, resolve, invoke, builtin, Sem.run_bind, Sem.run_pure, Result.andThen_ok, List.map_toArray, List.map_cons, List.map_nil, hs, hx, hr]
/-- What Bytes answers. -/
def RBT (w w' : World) (R A B : Nat) (l : List (BitVec 8)) (S : List (BitVec 8) × Nat × Nat) (e : Ending) : Prop :=
  ∃ v, e = .returned v ∧ w'.ownsRow w.heap.size 5 1 v S.1.length (cellsOf S.1) ∧ S.1.length ≤ 65536 ∧ RRd w' R A B l S.2.1 S.2.2 ∧ w.grownBy w' (some R)
theorem rbt_err {w w' : World} {R A B : Nat} {l : List (BitVec 8)} {a y : Nat} (h : RRd w' R A B l a y) (g : w.grownBy w' (some R)) : RBT w w' R A B l ([], a, y) (.returned (.slice none 0 0)) :=
  ⟨_, rfl, World.ownsRow_nil _ _ _ _, by simp, h, g⟩
set_option maxRecDepth 100000 in
set_option maxHeartbeats 3200000 in
theorem refRBytes_any (R A B : Nat) (l : List (BitVec 8)) (at_ why : Nat) (w : World) (h : RRd w R A B l at_ why) :
    Calls Tryd.prog 76 #[.pointer (some ⟨R, 0, none⟩)] w fun e w' => RBT w w' R A B l (rS l at_ why) e := by
  have HU := refRUint_any R A B l at_ why w h
  obtain ⟨a, cap, c0, c1, c2, hfr, _⟩ := h.cells
  have hat0 : at_ ≤ l.length := by obtain ⟨_, _, _, _, _, _, _, h6, _⟩ := h; exact h6
  have HM : Hid (l.length ≤ 140737488355328) := by obtain ⟨_, _, _, _, _, _, _, _, h7⟩ := h; exact h7
  have HAT : Hid (at_ ≤ l.length) := hat0
  have HLT : Hid (R < w.heap.size) := h.lt
  have HUS : Hid ((rU l at_ why).1 < 18446744073709551616) := rU_small l at_ why
  have HUA : Hid ((rU l at_ why).2.1 ≤ l.length) := rU_at l at_ why hat0
  have HC : Hid (rC l 65536 at_ why = if (rU l at_ why).2.2 ≠ 0 then (0, (rU l at_ why).2.1, (rU l at_ why).2.2) else if (65536 : Int) < 0 ∨ (65536 : Int) < (rU l at_ why).1 then (0, at_, 3) else if l.length - (rU l at_ why).2.1 < (rU l at_ why).1 then (0, at_, 10) else rU l at_ why) := by show _ = _; rw [rC]
  have HS : Hid (∀ n p y, rC l 65536 at_ why = (n, p, y) → rS l at_ why = if y ≠ 0 then ([], p, y) else ((l.drop p).take n, p + n, 0)) := fun n p y e => by rw [rS, e]
  have HOK : Hid (∀ n p, rC l 65536 at_ why = (n, p, 0) → l ≠ []) := fun n p e => (rC_ok hat0 e).1
  have HE : Hid ((rU l at_ why).2.2 ≠ 0 → rU l at_ why = (0, at_, (rU l at_ why).2.2)) := rU_err l at_ why
  obtain ⟨T, hT⟩ : ∃ T, rC l 65536 at_ why = T := ⟨_, rfl⟩
  obtain ⟨S, hS⟩ : ∃ S, rS l at_ why = S := ⟨_, rfl⟩
  rw [hT] at HC HS HOK
  rw [hS] at HS ⊢
  clear h hfr hT hS c0 c2 hat0
  generalize rU l at_ why = U at *
  obtain ⟨n, p, y⟩ := U
  simp only at HU HC HE HUS HUA
  by_cases hy : y = 0
  · subst hy
    have HC2 : Hid (T = if (65536 : Int) < n then (0, at_, 3) else if l.length - p < n then (0, at_, 10) else (n, p, 0)) := by show _ = _; rw [HC.out]; simp
    clear HC HE
    by_cases hA : (65536 : Int) < n
    · have HC3 : Hid (S = ([], at_, 3)) := by have e := HS.out 0 at_ 3 (by rw [HC2.out, if_pos hA]); rw [e]; simp [Hid]
      clear HC2
      go_enter Tryd.func76, Tryd.ntmps76
      go_wp2_with fail
      refine HU.mono ?_
      rintro e w1 ⟨rfl, r1, g1⟩
      obtain ⟨a', cap', d0, d1, d2, dfr, sn', nil', kc', ne', _, _⟩ := r1.cells
      have R1 : Hid (RRd w1 R A B l p 0) := r1
      have G1 : Hid (w.grownBy w1 (some R)) := g1
      have SN : Hid (Seen w1 a' l.length l) := sn'
      have KC : Hid (l.length ≤ cap') := kc'
      clear r1 g1 c1 sn' nil' kc' ne'
      go_wp2_with fail
      obtain ⟨x, hx⟩ : ∃ x, w1.setCell ⟨R, 2, none⟩ (.int .i64 3) = x := ⟨_, rfl⟩
      have rx : RRd x R A B l p 3 := by rw [← hx]; exact R1.out.put 3
      have gx : w.grownBy x (some R) := by rw [← hx]; exact grown_put G1.out _ _
      obtain ⟨a2, cap2, f0, f1, f2, ffr, _, _, _, _, _, _⟩ := rx.cells
      have RX : Hid (RRd x R A B l p 3) := rx
      have GX : Hid (w.grownBy x (some R)) := gx
      rw [hx]
      clear hx rx gx d0 d1 d2 dfr
      have hz : ((3 : Int) == 0) = false := rfl
      go_quiet (fail)
      go_wp2
      go_ret
      rw [HC3.out]
      exact rbt_err ((RX.out.drawn nq).go at_ HAT.out) (grown_put (grown_drawn GX.out nq) _ _)
    · have hsub : IntKind.i64.wrap ((l.length : Int) - (p : Int)) = ((l.length - p : Nat) : Int) := by have := HM.out; have := HUA.out; rw [IntKind.wrap_i64]; omega
      have hsub2 : IntKind.u64.wrap ((l.length - p : Nat) : Int) = ((l.length - p : Nat) : Int) := by have := HM.out; rw [IntKind.wrap_u64]; omega
      by_cases hB : l.length - p < n
      · have HC3 : Hid (S = ([], at_, 10)) := by have e := HS.out 0 at_ 10 (by rw [HC2.out, if_neg hA, if_pos hB]); rw [e]; simp [Hid]
        have hB' : ((l.length - p : Nat) : Int) < (n : Int) := by omega
        clear HC2 hB
        go_enter Tryd.func76, Tryd.ntmps76
        go_wp2_with fail
        refine HU.mono ?_
        rintro e w1 ⟨rfl, r1, g1⟩
        obtain ⟨a', cap', d0, d1, d2, dfr, sn', nil', kc', ne', _, _⟩ := r1.cells
        have R1 : Hid (RRd w1 R A B l p 0) := r1
        have G1 : Hid (w.grownBy w1 (some R)) := g1
        have SN : Hid (Seen w1 a' l.length l) := sn'
        have KC : Hid (l.length ≤ cap') := kc'
        clear r1 g1 c1 sn' nil' kc' ne'
        go_wp2_with fail
        go_quiet (fail)
        go_wp2
        go_ret
        rw [HC3.out]
        exact rbt_err (((R1.out.drawn nq).put 10).go at_ HAT.out) (grown_put (grown_put (grown_drawn G1.out nq) _ _) _ _)
      · have hT := HC2.out
        rw [if_neg hA, if_neg hB] at hT
        have hl : l ≠ [] := HOK.out n p hT
        have HC3 : Hid (S = ((l.drop p).take n, p + n, 0)) := by have e := HS.out n p 0 hT; rw [e]; simp [Hid]
        have HNP : Hid (n ≤ 65536 ∧ p + n ≤ l.length) := ⟨by omega, by have := HUA.out; omega⟩
        have hB' : ¬ ((l.length - p : Nat) : Int) < (n : Int) := by omega
        have hwn : wrap64 (n : Int) = n := by have := HNP.out; unfold wrap64; omega
        have hwn2 : IntKind.i64.wrap (n : Int) = n := by have := HNP.out; rw [IntKind.wrap_i64]; omega
        have hadd : IntKind.i64.wrap ((p : Int) + (n : Int)) = (p : Int) + (n : Int) := by have := HNP.out; have := HM.out; rw [IntKind.wrap_i64]; omega
        clear HC2 hB hT
        go_enter Tryd.func76, Tryd.ntmps76
        go_wp2_with fail
        refine HU.mono ?_
        rintro e w1 ⟨rfl, r1, g1⟩
        obtain ⟨a', cap', d0, d1, d2, dfr, sn', nil', kc', ne', _, _⟩ := r1.cells
        have R1 : Hid (RRd w1 R A B l p 0) := r1
        have G1 : Hid (w.grownBy w1 (some R)) := g1
        have SN : Hid (Seen w1 a' l.length l) := sn'
        have KC : Hid (l.length ≤ cap') := kc'
        clear r1 g1 c1 sn' nil' kc' ne'
        obtain ⟨b, off, rfl⟩ : ∃ b off, a' = some ⟨b, off, none⟩ := by
          rcases SN.out.2.2 with h3 | ⟨b, off, rfl, _⟩
          · exact absurd (List.eq_nil_of_length_eq_zero h3) hl
          · exact ⟨b, off, rfl⟩
        go_wp2_with fail
        go_quiet (fail)
        go_wp2_with fail
        obtain ⟨x, hx⟩ : ∃ x, (w1.drewN nq).drew = x := ⟨_, rfl⟩
        have x0 : x.cell? ⟨R, 0, none⟩ = some (.slice (some ⟨b, off, none⟩) l.length cap') := by rw [← hx]; exact d0
        have x1 : x.cell? ⟨R, 1, none⟩ = some (.int .i64 p) := by rw [← hx]; exact d1
        have RX : Hid (RRd x R A B l p 0) := by rw [← hx]; exact R1.out
        have GX : Hid (w.grownBy x (some R)) := by rw [← hx]; exact ⟨G1.out.os, G1.out.tape, G1.out.output, G1.out.size, G1.out.block⟩
        have SX : Hid (Seen x (some ⟨b, off, none⟩) l.length l) := by rw [← hx]; exact SN.out
        have hpn := HNP.out
        have hkc := KC.out
        obtain ⟨a3, hx3⟩ : ∃ a3, (if cap' = p then some (⟨b, off, none⟩ : Addr) else some ⟨b, off + p, none⟩) = a3 := ⟨_, rfl⟩
        have hx3' : (if cap' = p then some (⟨b, off, none⟩ : Addr) else some ((⟨b, off, none⟩ : Addr).add p)) = a3 := by rw [Addr.add_lit]; exact hx3
        have S3 : Seen x a3 n ((l.drop p).take n) := by
          have := (SX.out.drop p cap' (by omega) hkc).take n (by omega)
          rw [hx3'] at this
          exact this
        have N3 : a3 = none → cap' - p = 0 := fun e => by rw [← hx3] at e; split at e <;> cases e
        obtain ⟨v, z, hr, ho, hg⟩ := run_append_bytes 22 x x.heap.size (.slice none 0 0) 0 [] (World.ownsRow_nil _ _ _ _) a3 n (cap' - p) ((l.drop p).take n) S3 N3 (by omega) (Nat.le_refl _)
        rw [List.nil_append, Nat.zero_add] at ho
        have hbz : Below x.heap.size x z := (Below.refl _ x).grown hg (Nat.le_refl _) (fun k e => by cases e)
        have RZ : Hid (RRd z R A B l p 0) := RX.out.keep hbz
        have GZ : Hid (w.grownBy z (some R)) := ⟨hbz.os.trans GX.out.os, hbz.tape.trans GX.out.tape, hbz.output.trans GX.out.output, Nat.le_trans GX.out.size hbz.size, fun k hk hne => (hbz.block k (Nat.lt_of_lt_of_le hk GX.out.size)).trans (GX.out.block k hk hne)⟩
        have z0 : z.cell? ⟨R, 0, none⟩ = some (.slice (some ⟨b, off, none⟩) l.length cap') := (hbz.cell (p := ⟨R, 0, none⟩) (World.block_lt_of_cell? x _ x0)).trans x0
        have z1 : z.cell? ⟨R, 1, none⟩ = some (.int .i64 p) := (hbz.cell (p := ⟨R, 1, none⟩) (World.block_lt_of_cell? x _ x1)).trans x1
        have OZ : Hid (z.ownsRow x.heap.size 5 1 v n (cellsOf ((l.drop p).take n))) := ho
        have zfr : ∀ i, z.frozen? ⟨R, i, none⟩ = false := by obtain ⟨_, _, _, _, _, q, _⟩ := RZ.out.cells; exact q
        have i1 : (0 : Int) ≤ (p : Int) := by omega
        have i2 : (p : Int) ≤ (p : Int) + (n : Int) := by omega
        have i3 : (p : Int) + (n : Int) ≤ (cap' : Int) := by omega
        have i4 : ((p : Int) + (n : Int)).toNat = p + n := by omega
        have i5 : p + n - p = n := by omega
        have i6 : (0 : Int) ≤ (p : Int) + (n : Int) := by omega
        refine wp_region_held_drew (S := fun w' => w'.cell? ⟨R, 0, none⟩ = some (.slice (some ⟨b, off, none⟩) l.length cap') ∧ w'.cell? ⟨R, 1, none⟩ = some (.int .i64 p)) (by kernel_rfl) (by rw [hx]; exact ⟨x0, x1⟩) (fun hHeld => ?_)
        rw [hx] at hHeld ⊢
        clear hx ho hg hbz S3 N3 d0 d1 d2 dfr
        refine take_run (i := 0) (oi := { dst := some 56, op := Go.Op.move (Go.Operand.tmp 5), type := 22, pos := "ref.go:127", after := #[], guard := none }) (v := ?_) rfl (by kernel_rfl) (by kernel_rfl) (by kernel_rfl) (fun _ _ _ h => h) (by rfl) ?_ hHeld ?_
        rotate_left
        · (intro wq hSw; obtain ⟨s0, s1⟩ := hSw; go_simp <;> with_reducible rfl)
        try simp only [Act.put, List.setIfInBounds_toArray, List.set_cons_zero, List.set_cons_succ]
        refine take_run (i := 1) (oi := { dst := some 57, op := Go.Op.move (Go.Operand.tmp 0), type := 45, pos := "ref.go:127", after := #[], guard := none }) (v := ?_) rfl (by kernel_rfl) (by kernel_rfl) (by kernel_rfl) (fun _ _ _ h => h) (by rfl) ?_ hHeld ?_
        rotate_left
        · (intro wq hSw; obtain ⟨s0, s1⟩ := hSw; go_simp <;> with_reducible rfl)
        try simp only [Act.put, List.setIfInBounds_toArray, List.set_cons_zero, List.set_cons_succ]
        refine take_run (i := 2) (oi := { dst := some 58, op := Go.Op.nilCheck (Go.Operand.tmp 57), type := 0, pos := "ref.go:127", after := #[{ on := 1, ground := Go.Ground.data }], guard := none }) (v := ?_) rfl (by kernel_rfl) (by kernel_rfl) (by kernel_rfl) (fun _ _ _ h => h) (by rfl) ?_ hHeld ?_
        rotate_left
        · (intro wq hSw; obtain ⟨s0, s1⟩ := hSw; go_simp <;> with_reducible rfl)
        try simp only [Act.put, List.setIfInBounds_toArray, List.set_cons_zero, List.set_cons_succ]
        refine take_run (i := 3) (oi := { dst := some 59, op := Go.Op.fieldAddr 84 (Go.Operand.tmp 58) 0, type := 0, pos := "ref.go:127", after := #[{ on := 2, ground := Go.Ground.data }], guard := none }) (v := ?_) rfl (by kernel_rfl) (by kernel_rfl) (by kernel_rfl) (fun _ _ _ h => h) (by rfl) ?_ hHeld ?_
        rotate_left
        · (intro wq hSw; obtain ⟨s0, s1⟩ := hSw; go_simp <;> with_reducible rfl)
        try simp only [Act.put, List.setIfInBounds_toArray, List.set_cons_zero, List.set_cons_succ]
        refine take_run (i := 4) (oi := { dst := some 60, op := Go.Op.load 22 (Go.Operand.tmp 59), type := 22, pos := "ref.go:127", after := #[{ on := 3, ground := Go.Ground.data }], guard := none }) (v := ?_) rfl (by kernel_rfl) (by kernel_rfl) (by kernel_rfl) (fun _ _ _ h => h) (by rfl) ?_ hHeld ?_
        rotate_left
        · (intro wq hSw; obtain ⟨s0, s1⟩ := hSw; go_simp <;> with_reducible rfl)
        try simp only [Act.put, List.setIfInBounds_toArray, List.set_cons_zero, List.set_cons_succ]
        refine take_run (i := 5) (oi := { dst := some 61, op := Go.Op.move (Go.Operand.tmp 0), type := 45, pos := "ref.go:127", after := #[], guard := none }) (v := ?_) rfl (by kernel_rfl) (by kernel_rfl) (by kernel_rfl) (fun _ _ _ h => h) (by rfl) ?_ hHeld ?_
        rotate_left
        · (intro wq hSw; obtain ⟨s0, s1⟩ := hSw; go_simp <;> with_reducible rfl)
        try simp only [Act.put, List.setIfInBounds_toArray, List.set_cons_zero, List.set_cons_succ]
        refine take_run (i := 6) (oi := { dst := some 62, op := Go.Op.nilCheck (Go.Operand.tmp 61), type := 0, pos := "ref.go:127", after := #[{ on := 5, ground := Go.Ground.data }], guard := none }) (v := ?_) rfl (by kernel_rfl) (by kernel_rfl) (by kernel_rfl) (fun _ _ _ h => h) (by rfl) ?_ hHeld ?_
        rotate_left
        · (intro wq hSw; obtain ⟨s0, s1⟩ := hSw; go_simp <;> with_reducible rfl)
        try simp only [Act.put, List.setIfInBounds_toArray, List.set_cons_zero, List.set_cons_succ]
        refine take_run (i := 7) (oi := { dst := some 63, op := Go.Op.fieldAddr 84 (Go.Operand.tmp 62) 1, type := 0, pos := "ref.go:127", after := #[{ on := 6, ground := Go.Ground.data }], guard := none }) (v := ?_) rfl (by kernel_rfl) (by kernel_rfl) (by kernel_rfl) (fun _ _ _ h => h) (by rfl) ?_ hHeld ?_
        rotate_left
        · (intro wq hSw; obtain ⟨s0, s1⟩ := hSw; go_simp <;> with_reducible rfl)
        try simp only [Act.put, List.setIfInBounds_toArray, List.set_cons_zero, List.set_cons_succ]
        refine take_run (i := 8) (oi := { dst := some 64, op := Go.Op.load 3 (Go.Operand.tmp 63), type := 3, pos := "ref.go:127", after := #[{ on := 7, ground := Go.Ground.data }], guard := none }) (v := ?_) rfl (by kernel_rfl) (by kernel_rfl) (by kernel_rfl) (fun _ _ _ h => h) (by rfl) ?_ hHeld ?_
        rotate_left
        · (intro wq hSw; obtain ⟨s0, s1⟩ := hSw; go_simp <;> with_reducible rfl)
        try simp only [Act.put, List.setIfInBounds_toArray, List.set_cons_zero, List.set_cons_succ]
        refine take_run (i := 9) (oi := { dst := some 65, op := Go.Op.move (Go.Operand.tmp 0), type := 45, pos := "ref.go:127", after := #[], guard := none }) (v := ?_) rfl (by kernel_rfl) (by kernel_rfl) (by kernel_rfl) (fun _ _ _ h => h) (by rfl) ?_ hHeld ?_
        rotate_left
        · (intro wq hSw; obtain ⟨s0, s1⟩ := hSw; go_simp <;> with_reducible rfl)
        try simp only [Act.put, List.setIfInBounds_toArray, List.set_cons_zero, List.set_cons_succ]
        refine take_run (i := 10) (oi := { dst := some 66, op := Go.Op.nilCheck (Go.Operand.tmp 65), type := 0, pos := "ref.go:127", after := #[{ on := 9, ground := Go.Ground.data }], guard := none }) (v := ?_) rfl (by kernel_rfl) (by kernel_rfl) (by kernel_rfl) (fun _ _ _ h => h) (by rfl) ?_ hHeld ?_
        rotate_left
        · (intro wq hSw; obtain ⟨s0, s1⟩ := hSw; go_simp <;> with_reducible rfl)
        try simp only [Act.put, List.setIfInBounds_toArray, List.set_cons_zero, List.set_cons_succ]
        refine take_run (i := 11) (oi := { dst := some 67, op := Go.Op.fieldAddr 84 (Go.Operand.tmp 66) 1, type := 0, pos := "ref.go:127", after := #[{ on := 10, ground := Go.Ground.data }], guard := none }) (v := ?_) rfl (by kernel_rfl) (by kernel_rfl) (by kernel_rfl) (fun _ _ _ h => h) (by rfl) ?_ hHeld ?_
        rotate_left
        · (intro wq hSw; obtain ⟨s0, s1⟩ := hSw; go_simp <;> with_reducible rfl)
        try simp only [Act.put, List.setIfInBounds_toArray, List.set_cons_zero, List.set_cons_succ]
        refine take_run (i := 12) (oi := { dst := some 68, op := Go.Op.load 3 (Go.Operand.tmp 67), type := 3, pos := "ref.go:127", after := #[{ on := 11, ground := Go.Ground.data }], guard := none }) (v := ?_) rfl (by kernel_rfl) (by kernel_rfl) (by kernel_rfl) (fun _ _ _ h => h) (by rfl) ?_ hHeld ?_
        rotate_left
        · (intro wq hSw; obtain ⟨s0, s1⟩ := hSw; go_simp <;> with_reducible rfl)
        try simp only [Act.put, List.setIfInBounds_toArray, List.set_cons_zero, List.set_cons_succ]
        refine take_run (i := 13) (oi := { dst := some 69, op := Go.Op.move (Go.Operand.tmp 4), type := 53, pos := "ref.go:127", after := #[], guard := none }) (v := ?_) rfl (by kernel_rfl) (by kernel_rfl) (by kernel_rfl) (fun _ _ _ h => h) (by rfl) ?_ hHeld ?_
        rotate_left
        · (intro wq hSw; obtain ⟨s0, s1⟩ := hSw; go_simp <;> with_reducible rfl)
        try simp only [Act.put, List.setIfInBounds_toArray, List.set_cons_zero, List.set_cons_succ]
        refine take_run (i := 14) (oi := { dst := some 70, op := Go.Op.convert 53 3 (Go.Operand.tmp 69), type := 3, pos := "ref.go:127", after := #[{ on := 13, ground := Go.Ground.data }], guard := none }) (v := ?_) rfl (by kernel_rfl) (by kernel_rfl) (by kernel_rfl) (fun _ _ _ h => h) (by rfl) ?_ hHeld ?_
        rotate_left
        · (intro wq hSw; obtain ⟨s0, s1⟩ := hSw; go_simp <;> with_reducible rfl)
        try simp only [Act.put, List.setIfInBounds_toArray, List.set_cons_zero, List.set_cons_succ]
        refine take_run (i := 15) (oi := { dst := some 71, op := Go.Op.binOp Go.BinOp.add 3 (Go.Operand.tmp 68) (Go.Operand.tmp 70) 3, type := 3, pos := "ref.go:127", after := #[{ on := 12, ground := Go.Ground.data }, { on := 14, ground := Go.Ground.data }], guard := none }) (v := ?_) rfl (by kernel_rfl) (by kernel_rfl) (by kernel_rfl) (fun _ _ _ h => h) (by rfl) ?_ hHeld ?_
        rotate_left
        · (intro wq hSw; obtain ⟨s0, s1⟩ := hSw; go_simp <;> with_reducible rfl)
        try simp only [Act.put, List.setIfInBounds_toArray, List.set_cons_zero, List.set_cons_succ]
        refine take_run (i := 16) (oi := { dst := some 72, op := Go.Op.slice 22 (Go.Operand.tmp 60) (some (Go.Operand.tmp 64)) (some (Go.Operand.tmp 71)) none, type := 22, pos := "ref.go:127", after := #[{ on := 4, ground := Go.Ground.data }, { on := 8, ground := Go.Ground.data }, { on := 15, ground := Go.Ground.data }], guard := none }) (v := ?_) rfl (by kernel_rfl) (by kernel_rfl) (by kernel_rfl) (fun _ _ _ h => h) (by rfl) ?_ hHeld ?_
        rotate_left
        · (intro wq hSw; obtain ⟨s0, s1⟩ := hSw; go_simp <;> with_reducible rfl)
        try simp only [Act.put, List.setIfInBounds_toArray, List.set_cons_zero, List.set_cons_succ]
        refine take_make (i := 17) (oi := { dst := some 73, op := Go.Op.call { callee := Go.Callee.builtin Go.Builtin.append, args := #[Go.Operand.tmp 56, Go.Operand.tmp 72], argTypes := #[22, 22] }, type := 22, pos := "ref.go:127", after := #[{ on := 0, ground := Go.Ground.data }, { on := 16, ground := Go.Ground.data }], guard := none }) rfl (by kernel_rfl) (by rfl) (exec_append (.tmp 56) (.tmp 72) 22 rfl rfl rfl hr) (show _ ∧ _ from ⟨z0, z1⟩) ?_
        try simp only [Act.put, List.setIfInBounds_toArray, List.set_cons_zero, List.set_cons_succ]
        clear hHeld
        have hHeld : z.cell? ⟨R, 0, none⟩ = some (.slice (some ⟨b, off, none⟩) l.length cap') ∧ z.cell? ⟨R, 1, none⟩ = some (.int .i64 p) := ⟨z0, z1⟩
        refine take_run (i := 18) (oi := { dst := some 5, op := Go.Op.assign (Go.Operand.tmp 73), type := 22, pos := "ref.go:127", after := #[{ on := 17, ground := Go.Ground.data }, { on := 17, ground := Go.Ground.chain }, { on := 0, ground := Go.Ground.phase }, { on := 1, ground := Go.Ground.phase }, { on := 2, ground := Go.Ground.phase }, { on := 3, ground := Go.Ground.phase }, { on := 4, ground := Go.Ground.phase }, { on := 5, ground := Go.Ground.phase }, { on := 6, ground := Go.Ground.phase }, { on := 7, ground := Go.Ground.phase }, { on := 8, ground := Go.Ground.phase }, { on := 9, ground := Go.Ground.phase }, { on := 10, ground := Go.Ground.phase }, { on := 11, ground := Go.Ground.phase }, { on := 12, ground := Go.Ground.phase }, { on := 13, ground := Go.Ground.phase }, { on := 14, ground := Go.Ground.phase }, { on := 15, ground := Go.Ground.phase }, { on := 16, ground := Go.Ground.phase }, { on := 17, ground := Go.Ground.phase }], guard := none }) (v := ?_) rfl (by kernel_rfl) (by kernel_rfl) (by kernel_rfl) (fun _ _ _ h => h) (by rfl) ?_ hHeld ?_
        rotate_left
        · (intro wq hSw; obtain ⟨s0, s1⟩ := hSw; go_simp <;> with_reducible rfl)
        try simp only [Act.put, List.setIfInBounds_toArray, List.set_cons_zero, List.set_cons_succ]
        refine wpAnyH_done (by kernel_rfl) ?_ _
        clear hr i1 i2 i3 i4 i5 i6 hx3 hx3' hpn hkc x0 x1 hHeld
        go_wp2
        go_ret
        rw [HC3.out]
        have hlen : ((l.drop p).take n).length = n := by have := HNP.out; rw [List.length_take, List.length_drop]; omega
        have h1 := RZ.out.go (p + n) HNP.out.2
        rw [show (((p + n : Nat)) : Int) = (p : Int) + (n : Int) by omega] at h1
        refine ⟨v, rfl, ?_, by rw [hlen]; exact HNP.out.1, h1, grown_put GZ.out _ _⟩
        have h2 := owns_set OZ.out ⟨R, 1, none⟩ (.int .i64 ((p : Int) + (n : Int))) (by show R < _; exact Nat.lt_of_lt_of_le HLT.out GX.out.size)
        show World.ownsRow _ _ _ _ _ ((l.drop p).take n).length _
        rw [hlen]
        exact owns_mono' h2 GX.out.size
  · have HC2 : Hid (S = ([], at_, y)) := by
      have e := HE.out hy
      have e2 : p = at_ := by injection e with _ e; injection e
      have e3 := HS.out 0 at_ y (by rw [HC.out, if_pos hy, e2])
      rw [e3, if_pos hy]
      rfl
    have hy1 : ((y : Int) == 0) = false := by simp; omega
    have hy2 : ((y : Int) != 0) = true := by simp; omega
    clear HC HE hy
    go_enter Tryd.func76, Tryd.ntmps76
    go_wp2_with fail
    refine HU.mono ?_
    rintro e w1 ⟨rfl, r1, g1⟩
    obtain ⟨a', cap', d0, d1, d2, dfr, sn', nil', kc', ne', _, _⟩ := r1.cells
    have R1 : Hid (RRd w1 R A B l p y) := r1
    have G1 : Hid (w.grownBy w1 (some R)) := g1
    have SN : Hid (Seen w1 a' l.length l) := sn'
    have KC : Hid (l.length ≤ cap') := kc'
    clear r1 g1 c1 sn' nil' kc' ne'
    go_wp2_with fail
    go_quiet (fail)
    go_wp2
    go_ret
    rw [HC2.out]
    exact rbt_err ((R1.out.drawn nq).go at_ HAT.out) (grown_put (grown_drawn G1.out nq) _ _)
theorem refRText_any (R A B : Nat) (l : List (BitVec 8)) (at_ why : Nat) (w : World) (h : RRd w R A B l at_ why) :
    Calls Tryd.prog 50 #[.pointer (some ⟨R, 0, none⟩)] w fun e w' => e = .returned (.string (textOf (rS l at_ why).1)) ∧ RRd w' R A B l (rS l at_ why).2.1 (rS l at_ why).2.2 ∧ w.grownBy w' (some R) := by
  have HC := refRBytes_any R A B l at_ why w h
  clear h
  generalize rS l at_ why = t at *
  go_enter Tryd.func50, Tryd.ntmps50
  go_wp2_with fail
  refine HC.mono ?_
  rintro e w1 ⟨v, rfl, o1, k1, r1, g1⟩
  obtain ⟨a, cap, rfl, s1, _, _⟩ := owned_seen o1 (by unfold maxLen; omega)
  have t1 := run_to_text w1 a _ cap _ s1
  have R1 : Hid (RRd w1 R A B l t.2.1 t.2.2) := r1
  have G1 : Hid (w.grownBy w1 (some R)) := g1
  clear HC s1 o1 k1 r1 g1
  go_wp2
  go_ret
  exact ⟨rfl, R1.out, G1.out⟩
end Go.Proofs.YtdchnfggmkokhaaDoor


namespace Go.Proofs.YtdchnfggmkokhaaDoor
open Go.RowKit Cod
set_option linter.unusedVariables false

theorem RRd.since {w w' : World} {R A B : Nat} {l : List (BitVec 8)} {at_ why : Nat} (h : RRd w R A B l at_ why) (hR : w'.heap[R]? = w.heap[R]?) (hb : ∀ k, k < B → k < w.heap.size → w'.heap[k]? = w.heap[k]?) : RRd w' R A B l at_ why := by
  obtain ⟨a0, cap, hh, hs, hn, hk, hne, hat, hm⟩ := h
  exact ⟨a0, cap, hR.trans hh, hs.since (fun hl x hx => hb _ (hne hl x hx).2.2 (hs.lt hl x hx)), hn, hk, hne, hat, hm⟩
/-- A struct that is filled by reads of the reference's Reader. -/
structure FillR (w0 w : World) (R A B : Nat) (l : List (BitVec 8)) (at_ why : Nat) (t : TypeId) (zs cs : Array Value) : Prop where
  rdr : RRd w R A B l at_ why
  old : w.heap[w0.heap.size]? = some (.cells zs t (0, 0))
  new : w.heap[w0.heap.size + 1]? = some (.cells cs t (0, 0))
  grown : w0.grownBy w (some R)
  lt : R < w0.heap.size
  bd : B ≤ w0.heap.size
theorem FillR.start {w : World} {R A B : Nat} {l : List (BitVec 8)} {at_ why : Nat} (h : RRd w R A B l at_ why) (hB : B ≤ w.heap.size) (t : TypeId) (zs cs : Array Value) :
    FillR w ((w.alloc (.cells zs t)).alloc (.cells cs t)) R A B l at_ why t zs cs := by
  have b1 : Below w.heap.size w (w.alloc (.cells zs t)) := (Below.refl _ w).alloc (Nat.le_refl _) _
  have b2 : Below w.heap.size w ((w.alloc (.cells zs t)).alloc (.cells cs t)) := b1.alloc b1.size _
  refine ⟨h.keep b2, ?_, ?_, ?_, h.lt, hB⟩
  · rw [Below.heap_alloc _ _ _ (by simp)]
    exact heap_alloc_new w _
  · have := heap_alloc_new (w.alloc (.cells zs t)) (.cells cs t)
    simpa using this
  · exact grown_alloc (grown_alloc (grown_refl w _) _) _
theorem FillR.call {w0 w w' : World} {R A B : Nat} {l : List (BitVec 8)} {at_ why at' why' : Nat} {t : TypeId} {zs cs : Array Value} (h : FillR w0 w R A B l at_ why t zs cs) (hr : RRd w' R A B l at' why') (hg : w.grownBy w' (some R)) :
    FillR w0 w' R A B l at' why' t zs cs := by
  have hlt := h.lt
  have s1 := (Array.getElem?_eq_some_iff.1 h.old).1
  have s2 := (Array.getElem?_eq_some_iff.1 h.new).1
  exact ⟨hr, by rw [hg.block _ s1 (fun e => by have := Option.some.inj e; omega)]; exact h.old, by rw [hg.block _ s2 (fun e => by have := Option.some.inj e; omega)]; exact h.new, h.grown.trans hg, hlt, h.bd⟩
theorem FillR.store {w0 w : World} {R A B : Nat} {l : List (BitVec 8)} {at_ why : Nat} {t : TypeId} {zs cs : Array Value} (h : FillR w0 w R A B l at_ why t zs cs) (i : Nat) (v : Value) :
    FillR w0 (w.setCell ⟨w0.heap.size + 1, i, none⟩ v) R A B l at_ why t zs (cs.setIfInBounds i v) := by
  have hlt := h.lt
  have hbd := h.bd
  exact ⟨h.rdr.since (Below.heap_setCell _ _ _ _ (by show R ≠ w0.heap.size + 1; omega)) (fun k hk _ => Below.heap_setCell _ _ _ k (by show k ≠ w0.heap.size + 1; omega)), by rw [Below.heap_setCell _ _ _ _ (by simp)]; exact h.old, set_block h.new i v, grown_cell h.grown _ _ (by simp), hlt, hbd⟩
theorem FillR.put {w0 w : World} {R A B : Nat} {l : List (BitVec 8)} {at_ why : Nat} {t : TypeId} {zs cs : Array Value} (h : FillR w0 w R A B l at_ why t zs cs) (i : Nat) (v : Value) :
    FillR w0 (w.setCell ⟨w0.heap.size, i, none⟩ v) R A B l at_ why t (zs.setIfInBounds i v) cs := by
  have hlt := h.lt
  have hbd := h.bd
  exact ⟨h.rdr.since (Below.heap_setCell _ _ _ _ (by show R ≠ w0.heap.size; omega)) (fun k hk _ => Below.heap_setCell _ _ _ k (by show k ≠ w0.heap.size; omega)), set_block h.old i v, by rw [Below.heap_setCell _ _ _ _ (by simp)]; exact h.new, grown_cell h.grown _ _ (by simp), hlt, hbd⟩
theorem FillR.cell {w0 w : World} {R A B : Nat} {l : List (BitVec 8)} {at_ why : Nat} {t : TypeId} {zs cs : Array Value} (h : FillR w0 w R A B l at_ why t zs cs) (i : Nat) : w.cell? ⟨w0.heap.size + 1, i, none⟩ = cs[i]? ∧ w.frozen? ⟨w0.heap.size + 1, i, none⟩ = false := by
  simp [World.cell?, World.frozen?, h.new]
end Go.Proofs.YtdchnfggmkokhaaDoor
