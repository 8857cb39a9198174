/- What the second form's bound gives of bytes and messages. -/
import Derived.Test.YtfdlgiomnmnhgaaDoorFrameB
import Derived.Test.YtfdlgiomnmnhgaaDoorFrameM
namespace Go.Proofs.YtfdlgiomnmnhgaaDoor
open Go.ChangeShapes Go.WideShapes Go.ChangeAt Go.RowKit Go.Deep Go.Joins

theorem bulk_pos {H : Type} (d : DataW H) : 1 ≤ Rows.uptoBulk d := by
  cases d with
  | lit l => cases l <;> simp [Rows.uptoBulk]
  | _ => simp [Rows.uptoBulk]
theorem bulkAll_len {H : Type} (l : List (DataW H)) : l.length ≤ Rows.uptoBulkAll l := by
  induction l with
  | nil => simp [Rows.uptoBulkAll]
  | cons d l ih =>
    have := bulk_pos d
    simp only [Rows.uptoBulkAll, List.length_cons]
    omega
theorem cap_bulk {H : Type} {d : DataW H} {cap : Nat} (h : cap = 0 ∨ ∃ es sp, d = .slice es sp ∧ es.length + sp.length = cap) : cap ≤ Rows.uptoBulk d := by
  rcases h with h | ⟨es, sp, rfl, h⟩
  · omega
  · have h1 := bulkAll_len es
    have h2 := bulkAll_len sp
    simp only [Rows.uptoBulk]
    omega
theorem bulk_text {H : Type} (s : ByteArray) : s.size ≤ Rows.uptoBulk (DataW.lit (.string s.data.toList) : DataW H) := by
  simp only [Rows.uptoBulk, data_size]
  omega
set_option maxRecDepth 100000 in
theorem bulk_msg {H : Type} {enc : TypeId × Value → H} {W : World} {hd : HeadD} {a : Option Addr} {n c : Nat} {dv : Value} {E : List (Int × List (BitVec 8))} {d : DataW H} {p : List MemPlace} (h : DataW.Trod enc Tryd.prog W 0 (fun _ => true) true 32 (hd.val (.slice a n c) dv) d p) (hE : EntsAt W a n E) : ∀ e ∈ E, e.2.length ≤ Rows.uptoBulk d := by
  obtain ⟨fuel, hf⟩ := h
  obtain ⟨xs, m0, _, hx, _, hlen, hfld⟩ := DataW.trod_struct Tryd.underlying32 hf
  obtain ⟨y0, y1, y2, y3, y4, y5, y6, y7, y8, y9, y10, rfl⟩ := list11 (hlen.trans (by rfl))
  have g9 := hfld 9 _ rfl
  simp [HeadD.val, Value.cells, cellsOfE] at g9
  have hdd : d = _ := congrArg Prod.fst hx
  simp only [List.map_cons, List.map_nil] at hdd
  have hd9 : Rows.uptoBulk y9.1 ≤ Rows.uptoBulk d := by
    rw [hdd]
    simp only [Rows.uptoBulk, Rows.uptoBulkAll]
    omega
  rcases open_slice_pairs Tryd.underlying30 Tryd.underlying85 (by kernel_rfl) rfl rfl cellsOf2 cellsOfB g9 with ⟨hcs, _⟩ | ⟨x, len, cap, m, k, V0, V1, D0, D1, P0, P1, hcs, _, hlc, hcm, hm, hx2, hcell⟩
  · simp only [List.cons.injEq, and_true, Value.slice.injEq] at hcs
    have h0 : E = [] := List.eq_nil_of_length_eq_zero (by have := hE.1; omega)
    subst h0
    intro e he
    cases he
  · simp only [List.cons.injEq, and_true, Value.slice.injEq] at hcs
    obtain ⟨rfl, rfl, rfl⟩ := hcs
    obtain rfl : n = E.length := hE.1
    have hlm : E.length ≤ m := by rw [hm]; simpa using hlc
    intro e he
    obtain ⟨j, hj, rfl⟩ := List.getElem_of_mem he
    obtain ⟨_, q1, _, t1⟩ := hcell j (by omega)
    obtain ⟨b, off, v, ha, _, c2, a', c', rfl, s', n'⟩ := EntsAt.at hE hj
    have hb : x = ⟨b, off, none⟩ := Option.some.inj ha
    subst hb
    rw [Addr.add_lit, ← Nat.add_assoc, c2] at q1
    have hv : V1 j = .slice a' E[j].2.length c' := (Option.some.inj q1).symm
    rw [hv] at t1
    have hD : E[j].2.length ≤ Rows.uptoBulk (D1 j) := by
      rcases open_ints Tryd.underlying22 Tryd.underlying5 (by kernel_rfl) t1 with ⟨hcs, _⟩ | ⟨x', l', c'', zs, hcs, _, hl, hm', hz, hx', _, _⟩
      · simp only [List.cons.injEq, and_true, Value.slice.injEq] at hcs
        omega
      · simp only [List.cons.injEq, and_true, Value.slice.injEq] at hcs
        have hzc : zs.length = c'' := by simpa using hz
        have hd1 : D1 j = _ := congrArg Prod.fst hx'
        have := cap_bulk (d := D1 j) (cap := c'') (.inr ⟨_, _, hd1, by simp [lits]; omega⟩)
        omega
    have hy : y9.1 = _ := congrArg Prod.fst hx2
    have hmem : (DataW.agg [D0 j, D1 j]) ∈ (List.range E.length).map fun i => DataW.agg [D0 i, D1 i] := List.mem_map.2 ⟨j, List.mem_range.2 hj, rfl⟩
    have h1 := bulk_mem _ _ hmem
    rw [hy] at hd9
    simp only [Rows.uptoBulk, Rows.uptoBulkAll] at h1 hd9
    omega
end Go.Proofs.YtfdlgiomnmnhgaaDoor
