/- An ask and a result that came in, opened, with what the second form's bound gives. -/
import Derived.Test.YtogbcciocgpknaaTbB
import Derived.Test.YtogbcciocgpknaaTaG
import Derived.Test.YtogbcciocgpknaaXBy
namespace Go.Proofs.Ytogbcciocgpknaa
open Go.ChangeShapes Go.WideShapes Go.ChangeAt Go.RowKit Go.Deep Go.Joins
set_option linter.unusedVariables false
theorem bulkAll_lenX {H : Type} (l : List (DataW H)) : l.length ≤ Rows.uptoBulkAll l := by
  induction l with
  | nil => simp [Rows.uptoBulkAll]
  | cons x r ih =>
    have : 1 ≤ Rows.uptoBulk x := by
      cases x with
      | lit l => cases l <;> simp [Rows.uptoBulk]
      | _ => simp [Rows.uptoBulk]
    simp only [Rows.uptoBulkAll, List.length_cons]
    omega
theorem data_sizeX (s : ByteArray) : s.data.toList.length = s.size := by rw [Array.length_toList]; rfl
theorem bulk_rowsY {H : Type} : ∀ (rows : List (ByteArray × Int)) (D0 D1 : Nat → DataW H), (∀ i (hi : i < rows.length), D0 i = .lit (.string rows[i].1.data.toList)) → rowsSize rows ≤ 20 * Rows.uptoBulkAll ((List.range rows.length).map fun i => .agg [D0 i, D1 i])
  | [], _, _, _ => by simp [rowsSize]
  | r :: rest, D0, D1, h => by
    have ih := bulk_rowsY rest (fun i => D0 (i + 1)) (fun i => D1 (i + 1)) (fun i hi => by have := h (i + 1) (by simpa using hi); simpa using this)
    have h0 := h 0 (by simp)
    rw [List.length_cons, List.range_succ_eq_map, List.map_cons, List.map_map]
    simp only [rowsSize, List.map_cons, List.sum_cons, Rows.uptoBulkAll, Rows.uptoBulk] at ih ⊢
    rw [h0]
    simp only [Rows.uptoBulk, List.getElem_cons_zero, data_sizeX]
    have e : (List.map ((fun i => DataW.agg [D0 i, D1 i]) ∘ Nat.succ) (List.range rest.length)) = (List.range rest.length).map fun i => .agg [D0 (i + 1), D1 (i + 1)] := rfl
    rw [e]
    omega
set_option maxRecDepth 100000 in
theorem bulk_replyX {H : Type} {enc : TypeId × Value → H} {W : World} {why amount : Int} {a : Option Addr} {n c : Nat} {rows : List (ByteArray × Int)} {d : DataW H} {p : List MemPlace} (h : DataW.Trod enc Try.prog W 0 (fun _ => true) true 32 (.agg #[.int .i64 why, .int .i64 amount, .slice a n c]) d p) (hR : RowsAt W a n rows) : rowsSize rows ≤ 20 * Rows.uptoBulk d := by
  obtain ⟨fuel, hf⟩ := h
  obtain ⟨xs, m0, _, hx, _, hlen, hfld⟩ := DataW.trod_struct Try.underlying32 hf
  have g2 := hfld 2 _ rfl
  match xs, hlen with
  | [y0, y1, y2], _ =>
    simp [Value.cells, cellsMRw] at g2
    have hdd : d = _ := congrArg Prod.fst hx
    simp only [List.map_cons, List.map_nil] at hdd
    rcases open_slice_pairs Try.underlying30 Try.underlying62 (by kernel_rfl) rfl rfl cellsM9 cellsM2 g2 with ⟨hcs, _⟩ | ⟨x, len, cap, m, k, V0, V1, D0, D1, P0, P1, hcs, _, hlc, hcm, hm, hx2, hcell⟩
    · simp only [List.cons.injEq, and_true, Value.slice.injEq] at hcs
      have h0 : rows = [] := List.eq_nil_of_length_eq_zero (by have := hR.1; omega)
      subst h0
      simp [rowsSize]
    · simp only [List.cons.injEq, and_true, Value.slice.injEq] at hcs
      obtain ⟨rfl, rfl, rfl⟩ := hcs
      obtain rfl : n = rows.length := hR.1
      have hlm : rows.length ≤ m := by rw [hm]; simpa using hlc
      have hD : ∀ i (hi : i < rows.length), D0 i = .lit (.string rows[i].1.data.toList) := fun i hi => by
        obtain ⟨q0, _, t0, _⟩ := hcell i (by omega)
        obtain ⟨s, e0, d0, _⟩ := DataW.trod_string Try.underlying9 t0
        obtain ⟨b, off, ha, c1, _⟩ := RowsAt.at hR hi
        have hb : x = ⟨b, off, none⟩ := Option.some.inj ha
        subst hb
        rw [Addr.add_lit, c1] at q0
        simp only [List.cons.injEq, and_true] at e0
        rw [e0] at q0
        have hs : rows[i].1 = s := by simpa using q0
        have := congrArg Prod.fst d0
        rw [hs]
        exact this
      have hb := bulk_rowsY rows D0 D1 hD
      have hy : y2.1 = _ := congrArg Prod.fst hx2
      rw [hdd, hy]
      simp only [Rows.uptoBulk, Rows.uptoBulkAll]
      omega
theorem bulk_textX {H : Type} (s : ByteArray) : s.size ≤ Rows.uptoBulk (DataW.lit (.string s.data.toList) : DataW H) := by
  simp only [Rows.uptoBulk, data_sizeX]
  omega
set_option maxRecDepth 100000 in
theorem bulk_bytesX {H : Type} {enc : TypeId × Value → H} {W : World} {a : Option Addr} {n c : Nat} {x : DataW H × List MemPlace} {fuel : Nat} (hf : DataW.trod enc Try.prog W 0 (fun _ => true) true fuel 25 [.slice a n c] = some x) : n ≤ Rows.uptoBulk x.1 := by
  rcases open_ints Try.underlying25 Try.underlying5 (by kernel_rfl) hf with ⟨hcs, _⟩ | ⟨y, l, c, zs, hcs, _, hl, hm, hz, hx, hcell, hwz⟩
  · simp only [List.cons.injEq, and_true, Value.slice.injEq] at hcs
    omega
  · simp only [List.cons.injEq, and_true, Value.slice.injEq] at hcs
    obtain ⟨_, rfl, rfl⟩ := hcs
    have hd : x.1 = _ := congrArg Prod.fst hx
    rw [hd]
    have h1 := bulkAll_lenX (H := H) (lits .u8 (zs.take n))
    have hzc : zs.length = c := by simpa using hz
    have h2 : (lits (H := H) .u8 (zs.take n)).length = n := by simp [lits]; omega
    simp only [Rows.uptoBulk]
    omega
set_option maxRecDepth 100000 in
theorem open_aopU {H : Type} {enc : TypeId × Value → H} {W : World} {cs : List Value} {x : DataW H × List MemPlace} {fuel : Nat} (hl : cs.length = 7) (hf : DataW.trod enc Try.prog W 0 (fun _ => true) true fuel 23 cs = some x) : ∃ (k : Int) (f t : ByteArray) (a : Int) (y : ByteArray) (s h : Int), cs = [.int .i64 k, .string f, .string t, .int .i64 a, .string y, .int .i64 s, .int .i64 h] ∧ i64ok k ∧ i64ok a ∧ i64ok s ∧ i64ok h ∧ f.size + t.size + y.size ≤ Rows.uptoBulk x.1 := by
  obtain ⟨c0, c1, c2, c3, c4, c5, c6, rfl⟩ := listM7 hl
  obtain ⟨xs, n, _, hx, _, hlen, hfld⟩ := DataW.trod_struct Try.underlying23 hf
  obtain ⟨y0, y1, y2, y3, y4, y5, y6, rfl⟩ := listM7 (hlen.trans (by rfl))
  have g0 := hfld 0 _ rfl
  have g1 := hfld 1 _ rfl
  have g2 := hfld 2 _ rfl
  have g3 := hfld 3 _ rfl
  have g4 := hfld 4 _ rfl
  have g5 := hfld 5 _ rfl
  have g6 := hfld 6 _ rfl
  simp [cellsM2, cellsM3, cellsM9] at g0 g1 g2 g3 g4 g5 g6
  obtain ⟨k0, e0, _, w0⟩ := DataW.trod_int Try.underlying3 g0
  obtain ⟨k1, e1, b1, _⟩ := DataW.trod_string Try.underlying9 g1
  obtain ⟨k2, e2, b2, _⟩ := DataW.trod_string Try.underlying9 g2
  obtain ⟨k3, e3, _, w3⟩ := DataW.trod_int Try.underlying2 g3
  obtain ⟨k4, e4, b4, _⟩ := DataW.trod_string Try.underlying9 g4
  obtain ⟨k5, e5, _, w5⟩ := DataW.trod_int Try.underlying3 g5
  obtain ⟨k6, e6, _, w6⟩ := DataW.trod_int Try.underlying3 g6
  simp only [List.cons.injEq, and_true] at e0 e1 e2 e3 e4 e5 e6
  subst e0 e1 e2 e3 e4 e5 e6
  refine ⟨k0, k1, k2, k3, k4, k5, k6, rfl, i64_wfX2 w0, i64_wfX2 w3, i64_wfX2 w5, i64_wfX2 w6, ?_⟩
  have hdd : x.1 = _ := congrArg Prod.fst hx
  simp only [List.map_cons, List.map_nil, b1, b2, b4] at hdd
  rw [hdd]
  have q1 := bulk_textX (H := H) k1
  have q2 := bulk_textX (H := H) k2
  have q4 := bulk_textX (H := H) k4
  simp only [Rows.uptoBulk, Rows.uptoBulkAll] at q1 q2 q4 ⊢
  omega
set_option maxRecDepth 100000 in
theorem open_cmdU {H : Type} {enc : TypeId × Value → H} {W : World} {cs : List Value} {x : DataW H × List MemPlace} {fuel : Nat} (hl : cs.length = 17) (hf : DataW.trod enc Try.prog W 0 (fun _ => true) true fuel 27 cs = some x) (hw : ∀ n ∈ x.1.weights Try.prog 27, n ≤ reachBytes) : ∃ (k ok : Int) (of_ ot : ByteArray) (oa : Int) (oy : ByteArray) (os oh : Int) (id nm : ByteArray) (cn why slot cep at_ : Int) (last : Bool) (da : Option Addr) (dc : Nat) (dl : List (BitVec 8)), cs = [.int .i64 k, .int .i64 ok, .string of_, .string ot, .int .i64 oa, .string oy, .int .i64 os, .int .i64 oh, .string id, .string nm, .int .i64 cn, .int .i64 why, .int .i64 slot, .int .i64 cep, .int .i64 at_, .bool last, .slice da dl.length dc] ∧ Seen W da dl.length dl ∧ (da = none → dc = 0) ∧ CmdV.In ⟨k, ok, of_, ot, oa, oy, os, oh, id, nm, cn, why, slot, cep, at_, last, .slice da dl.length dc⟩ ∧ CmdV.sz ⟨k, ok, of_, ot, oa, oy, os, oh, id, nm, cn, why, slot, cep, at_, last, .slice da dl.length dc⟩ dl ≤ Rows.uptoBulk x.1 := by
  obtain ⟨c0, c1, c2, c3, c4, c5, c6, c7, c8, c9, c10, c11, c12, c13, c14, c15, c16, rfl⟩ := listM17 hl
  obtain ⟨xs, n, _, hx, _, hlen, hfld⟩ := DataW.trod_struct Try.underlying27 hf
  obtain ⟨y0, y1, y2, y3, y4, y5, y6, y7, y8, y9, y10, rfl⟩ := listM11 (hlen.trans (by rfl))
  have g0 := hfld 0 _ rfl
  have g1 := hfld 1 _ rfl
  have g2 := hfld 2 _ rfl
  have g3 := hfld 3 _ rfl
  have g4 := hfld 4 _ rfl
  have g5 := hfld 5 _ rfl
  have g6 := hfld 6 _ rfl
  have g7 := hfld 7 _ rfl
  have g8 := hfld 8 _ rfl
  have g9 := hfld 9 _ rfl
  have g10 := hfld 10 _ rfl
  simp [cellsM2, cellsM3, cellsM4, cellsM9, cellsME, cellsMAO, cellsMB] at g0 g1 g2 g3 g4 g5 g6 g7 g8 g9 g10
  obtain ⟨k0, e0, _, w0⟩ := DataW.trod_int Try.underlying3 g0
  obtain ⟨o0, o1, o2, o3, o4, o5, o6, e1, v0, v1, v2, v3, v4⟩ := open_aopU rfl g1
  obtain ⟨k2, e2, b2, _⟩ := DataW.trod_string Try.underlying9 g2
  obtain ⟨k3, e3, b3, _⟩ := DataW.trod_string Try.underlying9 g3
  obtain ⟨k4, e4, _, w4⟩ := DataW.trod_int Try.underlying2 g4
  obtain ⟨k5, e5, _, w5⟩ := DataW.trod_int Try.underlying24 g5
  obtain ⟨k6, e6, _, w6⟩ := DataW.trod_int Try.underlying3 g6
  obtain ⟨k7, e7, _, w7⟩ := DataW.trod_int Try.underlying2 g7
  obtain ⟨k8, e8, _, w8⟩ := DataW.trod_int Try.underlying3 g8
  obtain ⟨k9, e9, _⟩ := DataW.trod_bool Try.underlying4 g9
  have hdd : x.1 = _ := congrArg Prod.fst hx
  simp only [List.map_cons, List.map_nil] at hdd
  obtain ⟨dl, da, dc, e10, sd, nd, bd⟩ := open_bytesC g10 (fun n hn => hw n (by
    rw [hdd, DataW.weights, Try.underlying27]
    exact DataW.weights_mem_each (j := 10) (t := 25) (d := y10.1) rfl rfl n hn))
  have bb := bulk_bytesX (by rw [e10] at g10; exact g10)
  simp only [List.cons.injEq, and_true] at e0 e1 e2 e3 e4 e5 e6 e7 e8 e9
  obtain ⟨p0, p1, p2, p3, p4, p5, p6⟩ := e1
  subst e0 p0 p1 p2 p3 p4 p5 p6 e2 e3 e4 e5 e6 e7 e8 e9 e10
  refine ⟨k0, o0, o1, o2, o3, o4, o5, o6, k2, k3, k4, k5, k6, k7, k8, k9, da, dc, dl, rfl, sd, nd, ⟨i64_wfX2 w0, ⟨v0, v1, v2, v3⟩, i64_wfX2 w4, i64_wfX2 w5, i64_wfX2 w6, i64_wfX2 w7, i64_wfX2 w8⟩, ?_⟩
  rw [hdd]
  rw [b2, b3]
  have q2 := bulk_textX (H := H) k2
  have q3 := bulk_textX (H := H) k3
  simp only [CmdV.sz, CmdV.op, OpD.size, Rows.uptoBulk, Rows.uptoBulkAll] at q2 q3 ⊢
  omega
set_option maxRecDepth 100000 in
theorem open_askU {H : Type} {enc : TypeId × Value → H} {W : World} {cs : List Value} {x : DataW H × List MemPlace} {fuel : Nat} (hl : cs.length = 18) (hf : DataW.trod enc Try.prog W 0 (fun _ => true) true fuel 29 cs = some x) (hw : ∀ n ∈ x.1.weights Try.prog 29, n ≤ reachBytes) : ∃ (g k ok : Int) (of_ ot : ByteArray) (oa : Int) (oy : ByteArray) (os oh : Int) (id nm : ByteArray) (cn why slot cep at_ : Int) (last : Bool) (da : Option Addr) (dc : Nat) (dl : List (BitVec 8)), cs = [.int .i64 g, .int .i64 k, .int .i64 ok, .string of_, .string ot, .int .i64 oa, .string oy, .int .i64 os, .int .i64 oh, .string id, .string nm, .int .i64 cn, .int .i64 why, .int .i64 slot, .int .i64 cep, .int .i64 at_, .bool last, .slice da dl.length dc] ∧ Seen W da dl.length dl ∧ (da = none → dc = 0) ∧ i64ok g ∧ CmdV.In ⟨k, ok, of_, ot, oa, oy, os, oh, id, nm, cn, why, slot, cep, at_, last, .slice da dl.length dc⟩ ∧ CmdV.sz ⟨k, ok, of_, ot, oa, oy, os, oh, id, nm, cn, why, slot, cep, at_, last, .slice da dl.length dc⟩ dl ≤ Rows.uptoBulk x.1 := by
  obtain ⟨c0, c1, c2, c3, c4, c5, c6, c7, c8, c9, c10, c11, c12, c13, c14, c15, c16, c17, rfl⟩ := listM18 hl
  obtain ⟨xs, n, _, hx, _, hlen, hfld⟩ := DataW.trod_struct Try.underlying29 hf
  obtain ⟨y0, y1, rfl⟩ := listM2 (hlen.trans (by rfl))
  have g0 := hfld 0 _ rfl
  have g1 := hfld 1 _ rfl
  simp [cellsM3, cellsMCm] at g0 g1
  obtain ⟨k0, e0, _, w0⟩ := DataW.trod_int Try.underlying3 g0
  have hdd : x.1 = _ := congrArg Prod.fst hx
  simp only [List.map_cons, List.map_nil] at hdd
  obtain ⟨k, ok, of_, ot, oa, oy, os, oh, id, nm, cn, why, slot, cep, at_, last, da, dc, dl, e1, sd, nd, cI, cS⟩ := open_cmdU rfl g1 (fun n hn => hw n (by
    rw [hdd, DataW.weights, Try.underlying29]
    exact DataW.weights_mem_each (j := 1) (t := 27) (d := y1.1) rfl rfl n hn))
  simp only [List.cons.injEq, and_true] at e0
  subst e0
  refine ⟨k0, k, ok, of_, ot, oa, oy, os, oh, id, nm, cn, why, slot, cep, at_, last, da, dc, dl, by rw [e1], sd, nd, i64_wfX2 w0, cI, ?_⟩
  rw [hdd]
  simp only [Rows.uptoBulk, Rows.uptoBulkAll]
  omega
set_option maxRecDepth 100000 in
theorem open_resU {H : Type} {enc : TypeId × Value → H} {W : World} {cs : List Value} {x : DataW H × List MemPlace} {fuel : Nat} (hl : cs.length = 6) (hf : DataW.trod enc Try.prog W 0 (fun _ => true) true fuel 34 cs = some x) (hw : ∀ n ∈ x.1.weights Try.prog 34, n ≤ reachBytes) : ∃ (rwhy : Int) (rwait : Bool) (rrw rra : Int) (qa : Option Addr) (qc : Nat) (rows : List (ByteArray × Int)) (ea : Option Addr) (ec : Nat) (el : List (BitVec 8)), cs = [.int .i64 rwhy, .bool rwait, .int .i64 rrw, .int .i64 rra, .slice qa rows.length qc, .slice ea el.length ec] ∧ Seen W ea el.length el ∧ (ea = none → ec = 0) ∧ el.length ≤ 140737488351232 ∧ RowsAt W qa rows.length rows ∧ (qa = none → qc = 0) ∧ rows.length * 24 ≤ 140737488355328 ∧ i64ok rwhy ∧ i64ok rrw ∧ i64ok rra ∧ (∀ r ∈ rows, i64ok r.2) ∧ rowsSize rows ≤ 20 * Rows.uptoBulk x.1 ∧ el.length ≤ Rows.uptoBulk x.1 := by
  obtain ⟨c0, c1, c2, c3, c4, c5, rfl⟩ := listM6 hl
  obtain ⟨xs, n, _, hx, _, hlen, hfld⟩ := DataW.trod_struct Try.underlying34 hf
  obtain ⟨y0, y1, y2, y3, rfl⟩ := listM4 (hlen.trans (by rfl))
  have g0 := hfld 0 _ rfl
  have g1 := hfld 1 _ rfl
  have g2 := hfld 2 _ rfl
  have g3 := hfld 3 _ rfl
  simp [cellsM4, cellsME, cellsMRp, cellsMB] at g0 g1 g2 g3
  obtain ⟨k0, e0, _, w0⟩ := DataW.trod_int Try.underlying24 g0
  obtain ⟨k1, e1, _⟩ := DataW.trod_bool Try.underlying4 g1
  have hdd : x.1 = _ := congrArg Prod.fst hx
  simp only [List.map_cons, List.map_nil] at hdd
  obtain ⟨o0, o1, qa, qc, rows, e2, v0, v1, r1, v2, r3, r4⟩ := open_repX rfl g2 (fun n hn => hw n (by
    rw [hdd, DataW.weights, Try.underlying34]
    exact DataW.weights_mem_each (j := 2) (t := 32) (d := y2.1) rfl rfl n hn))
  obtain ⟨dl, da, dc, e3, sd, nd, bd⟩ := open_bytesC g3 (fun n hn => hw n (by
    rw [hdd, DataW.weights, Try.underlying34]
    exact DataW.weights_mem_each (j := 3) (t := 25) (d := y3.1) rfl rfl n hn))
  have bb := bulk_bytesX (by rw [e3] at g3; exact g3)
  have br : rowsSize rows ≤ 20 * Rows.uptoBulk y2.1 := bulk_replyX (why := o0) (amount := o1) (a := qa) (n := rows.length) (c := qc) (p := y2.2) ⟨_, by rw [e2] at g2; exact g2⟩ r1
  simp only [List.cons.injEq, and_true] at e0 e1 e2
  obtain ⟨p0, p1, p2⟩ := e2
  subst e0 e1 p0 p1 p2 e3
  have hB : Rows.uptoBulk y2.1 + Rows.uptoBulk y3.1 ≤ Rows.uptoBulk x.1 := by
    rw [hdd]
    simp only [Rows.uptoBulk, Rows.uptoBulkAll]
    omega
  exact ⟨k0, k1, o0, o1, qa, qc, rows, da, dc, dl, rfl, sd, nd, bd, r1, r3, r4, i64_wfX2 w0, v0, v1, v2, by omega, by omega⟩
set_option maxRecDepth 100000 in
theorem open_askB {H : Type} {enc : TypeId × Value → H} {W : World} {v : Value} {d : DataW H} {p : List MemPlace} {base : Nat} (hv : Value.okWide Try.prog W .any base 29 v) (h : DataW.Trod enc Try.prog W 0 (fun _ => true) true 29 v d p)
    {ts : List TypeId} {ds : List (DataW H)} (hsz : (DataW.weightsEach Try.prog ts ds).all (· ≤ reachBytes) = true) (j : Nat) (htj : ts[j]? = some 29) (hdj : ds[j]? = some d) :
    ∃ (g k ok : Int) (of_ ot : ByteArray) (oa : Int) (oy : ByteArray) (os oh : Int) (id nm : ByteArray) (cn why slot cep at_ : Int) (last : Bool) (da : Option Addr) (dc : Nat) (dl : List (BitVec 8)), v = .agg #[.int .i64 g, .int .i64 k, .int .i64 ok, .string of_, .string ot, .int .i64 oa, .string oy, .int .i64 os, .int .i64 oh, .string id, .string nm, .int .i64 cn, .int .i64 why, .int .i64 slot, .int .i64 cep, .int .i64 at_, .bool last, .slice da dl.length dc] ∧ Seen W da dl.length dl ∧ (da = none → dc = 0) ∧ i64ok g ∧ CmdV.In ⟨k, ok, of_, ot, oa, oy, os, oh, id, nm, cn, why, slot, cep, at_, last, .slice da dl.length dc⟩ ∧ CmdV.sz ⟨k, ok, of_, ot, oa, oy, os, oh, id, nm, cn, why, slot, cep, at_, last, .slice da dl.length dc⟩ dl ≤ Rows.uptoBulk d := by
  obtain ⟨cs, rfl, hcz⟩ := okWide_struct Try.underlying29 hv
  obtain ⟨fuel, hf⟩ := h
  have hl : cs.toList.length = 18 := by rw [Array.length_toList]; exact hcz.trans (by kernel_rfl)
  obtain ⟨g, k, ok, of_, ot, oa, oy, os, oh, id, nm, cn, why, slot, cep, at_, last, da, dc, dl, e, s1⟩ := open_askU (cs := cs.toList) hl hf (fun n hn => by
    have := List.all_eq_true.1 hsz n (DataW.weights_mem_each htj hdj n hn)
    simpa using this)
  refine ⟨g, k, ok, of_, ot, oa, oy, os, oh, id, nm, cn, why, slot, cep, at_, last, da, dc, dl, ?_, s1⟩
  rw [show cs = cs.toList.toArray by simp, e]
set_option maxRecDepth 100000 in
theorem open_resB {H : Type} {enc : TypeId × Value → H} {W : World} {v : Value} {d : DataW H} {p : List MemPlace} {base : Nat} (hv : Value.okWide Try.prog W .any base 34 v) (h : DataW.Trod enc Try.prog W 0 (fun _ => true) true 34 v d p)
    {ts : List TypeId} {ds : List (DataW H)} (hsz : (DataW.weightsEach Try.prog ts ds).all (· ≤ reachBytes) = true) (j : Nat) (htj : ts[j]? = some 34) (hdj : ds[j]? = some d) :
    ∃ (rwhy : Int) (rwait : Bool) (rrw rra : Int) (qa : Option Addr) (qc : Nat) (rows : List (ByteArray × Int)) (ea : Option Addr) (ec : Nat) (el : List (BitVec 8)), v = .agg #[.int .i64 rwhy, .bool rwait, .int .i64 rrw, .int .i64 rra, .slice qa rows.length qc, .slice ea el.length ec] ∧ Seen W ea el.length el ∧ (ea = none → ec = 0) ∧ el.length ≤ 140737488351232 ∧ RowsAt W qa rows.length rows ∧ (qa = none → qc = 0) ∧ rows.length * 24 ≤ 140737488355328 ∧ i64ok rwhy ∧ i64ok rrw ∧ i64ok rra ∧ (∀ r ∈ rows, i64ok r.2) ∧ rowsSize rows ≤ 20 * Rows.uptoBulk d ∧ el.length ≤ Rows.uptoBulk d := by
  obtain ⟨cs, rfl, hcz⟩ := okWide_struct Try.underlying34 hv
  obtain ⟨fuel, hf⟩ := h
  have hl : cs.toList.length = 6 := by rw [Array.length_toList]; exact hcz.trans (by kernel_rfl)
  obtain ⟨rwhy, rwait, rrw, rra, qa, qc, rows, ea, ec, el, e, s1⟩ := open_resU (cs := cs.toList) hl hf (fun n hn => by
    have := List.all_eq_true.1 hsz n (DataW.weights_mem_each htj hdj n hn)
    simpa using this)
  refine ⟨rwhy, rwait, rrw, rra, qa, qc, rows, ea, ec, el, ?_, s1⟩
  rw [show cs = cs.toList.toArray by simp, e]
end Go.Proofs.Ytogbcciocgpknaa
