/- What the second form's bound gives of operations and answers: how long their texts are at most. -/
import Derived.Test.YtfdlgiomnmnhgaaDoorFrameS
import Derived.Test.YtfdlgiomnmnhgaaDoorSame
namespace Go.Proofs.YtfdlgiomnmnhgaaDoor
open Go.ChangeShapes Go.WideShapes Go.ChangeAt Go.RowKit Go.Deep Go.Joins

theorem cellsOfR : Tryd.prog.cellsOf 27 = 1 := by kernel_rfl
theorem bulk_mem {H : Type} : ∀ (ds : List (DataW H)) (d : DataW H), d ∈ ds → Rows.uptoBulk d ≤ Rows.uptoBulkAll ds
  | x :: r, d, h => by
    simp only [Rows.uptoBulkAll]
    rcases List.mem_cons.1 h with h | h
    · subst h; omega
    · have := bulk_mem r d h; omega
theorem bulk_le {H : Type} {ds : List (DataW H)} (hk : Rows.uptoSmall H (ds ++ []) = true) (d : DataW H) (hm : d ∈ ds) : Rows.uptoBulk d ≤ 1048576 := by
  have h := of_decide_eq_true hk
  rw [List.append_nil] at h
  have := bulk_mem ds d hm
  omega
theorem data_size (s : ByteArray) : s.data.toList.length = s.size := by rw [Array.length_toList]; rfl
set_option maxRecDepth 100000 in
theorem bulk_op {H : Type} {enc : TypeId × Value → H} {W : World} {o : OpD} {d : DataW H} {p : List MemPlace} (h : DataW.Trod enc Tryd.prog W 0 (fun _ => true) true 25 o.val d p) : o.size ≤ Rows.uptoBulk d := by
  obtain ⟨kind, src, dst, amount, key, slot, shard⟩ := o
  obtain ⟨fuel, hf⟩ := h
  obtain ⟨xs, n, _, hx, _, hlen, hfld⟩ := DataW.trod_struct Tryd.underlying25 hf
  obtain ⟨y0, y1, y2, y3, y4, y5, y6, rfl⟩ := list7 (hlen.trans (by rfl))
  have g1 := hfld 1 _ rfl
  have g2 := hfld 2 _ rfl
  have g4 := hfld 4 _ rfl
  simp [OpD.val, Value.cells, cellsOf9] at g1 g2 g4
  obtain ⟨s1, e1, d1, _⟩ := DataW.trod_string Tryd.underlying9 g1
  obtain ⟨s2, e2, d2, _⟩ := DataW.trod_string Tryd.underlying9 g2
  obtain ⟨s4, e4, d4, _⟩ := DataW.trod_string Tryd.underlying9 g4
  simp only [List.cons.injEq, and_true, Value.string.injEq] at e1 e2 e4
  subst e1 e2 e4
  have hdd : d = _ := congrArg Prod.fst hx
  simp only [List.map_cons, List.map_nil, d1, d2, d4] at hdd
  rw [hdd]
  simp only [Rows.uptoBulk, Rows.uptoBulkAll, OpD.size, data_size]
  omega
theorem bulk_rows {H : Type} : ∀ (rows : List (ByteArray × Int)) (D0 D1 : Nat → DataW H), (∀ i (hi : i < rows.length), D0 i = .lit (.string rows[i].1.data.toList)) → rowsSize rows ≤ 20 * Rows.uptoBulkAll ((List.range rows.length).map fun i => .agg [D0 i, D1 i])
  | [], _, _, _ => by simp [rowsSize]
  | r :: rest, D0, D1, h => by
    have ih := bulk_rows rest (fun i => D0 (i + 1)) (fun i => D1 (i + 1)) (fun i hi => by have := h (i + 1) (by simpa using hi); simpa using this)
    have h0 := h 0 (by simp)
    rw [List.length_cons, List.range_succ_eq_map, List.map_cons, List.map_map]
    simp only [rowsSize, List.map_cons, List.sum_cons, Rows.uptoBulkAll, Rows.uptoBulk] at ih ⊢
    rw [h0]
    simp only [Rows.uptoBulk, List.getElem_cons_zero, data_size]
    have e : (List.map ((fun i => DataW.agg [D0 i, D1 i]) ∘ Nat.succ) (List.range rest.length)) = (List.range rest.length).map fun i => .agg [D0 (i + 1), D1 (i + 1)] := rfl
    rw [e]
    omega
set_option maxRecDepth 100000 in
theorem bulk_reply {H : Type} {enc : TypeId × Value → H} {W : World} {why amount : Int} {a : Option Addr} {n c : Nat} {rows : List (ByteArray × Int)} {d : DataW H} {p : List MemPlace} (h : DataW.Trod enc Tryd.prog W 0 (fun _ => true) true 29 (.agg #[.int .i64 why, .int .i64 amount, .slice a n c]) d p) (hR : RowsAt W a n rows) : rowsSize rows ≤ 20 * Rows.uptoBulk d := by
  obtain ⟨fuel, hf⟩ := h
  obtain ⟨xs, m0, _, hx, _, hlen, hfld⟩ := DataW.trod_struct Tryd.underlying29 hf
  have g2 := hfld 2 _ rfl
  match xs, hlen with
  | [y0, y1, y2], _ =>
    simp [Value.cells, cellsOfR] at g2
    have hdd : d = _ := congrArg Prod.fst hx
    simp only [List.map_cons, List.map_nil] at hdd
    rcases open_slice_pairs Tryd.underlying27 Tryd.underlying75 (by kernel_rfl) rfl rfl cellsOf9 cellsOf2 g2 with ⟨hcs, _⟩ | ⟨x, len, cap, m, k, V0, V1, D0, D1, P0, P1, hcs, _, hlc, hcm, hm, hx2, hcell⟩
    · simp only [List.cons.injEq, and_true, Value.slice.injEq] at hcs
      have h0 : rows = [] := List.eq_nil_of_length_eq_zero (by have := hR.1; omega)
      subst h0
      simp [rowsSize]
    · simp only [List.cons.injEq, and_true, Value.slice.injEq] at hcs
      obtain ⟨rfl, rfl, rfl⟩ := hcs
      obtain rfl : n = rows.length := hR.1
      have hlm : rows.length ≤ m := by rw [hm]; simpa using hlc
      have hD : ∀ i (hi : i < rows.length), D0 i = .lit (.string rows[i].1.data.toList) := fun i hi => by
        obtain ⟨q0, _, t0, _⟩ := hcell i (by omega)
        obtain ⟨s, e0, d0, _⟩ := DataW.trod_string Tryd.underlying9 t0
        obtain ⟨b, off, ha, c1, _⟩ := RowsAt.at hR hi
        have hb : x = ⟨b, off, none⟩ := Option.some.inj ha
        subst hb
        rw [Addr.add_lit, c1] at q0
        simp only [List.cons.injEq, and_true] at e0
        rw [e0] at q0
        have hs : rows[i].1 = s := by simpa using q0
        have := congrArg Prod.fst d0
        rw [hs]
        exact this
      have hb := bulk_rows rows D0 D1 hD
      have hy : y2.1 = _ := congrArg Prod.fst hx2
      rw [hdd, hy]
      simp only [Rows.uptoBulk, Rows.uptoBulkAll]
      omega
end Go.Proofs.YtfdlgiomnmnhgaaDoor
