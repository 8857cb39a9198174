/- Messages that came in: opened. -/
import Derived.Test.YtfdlgiomnmnhgaaDoorFrameS
import Derived.Test.YtfdlgiomnmnhgaaDoorMsg
namespace Go.Proofs.YtfdlgiomnmnhgaaDoor
open Go.ChangeShapes Go.WideShapes Go.ChangeAt Go.RowKit Go.Deep Go.Joins

theorem array11 {α : Type} {cs : Array α} (h : cs.size = 11) : ∃ c0 c1 c2 c3 c4 c5 c6 c7 c8 c9 c10, cs = #[c0, c1, c2, c3, c4, c5, c6, c7, c8, c9, c10] := by
  obtain ⟨l⟩ := cs
  match l, h with
  | [c0, c1, c2, c3, c4, c5, c6, c7, c8, c9, c10], _ => exact ⟨c0, c1, c2, c3, c4, c5, c6, c7, c8, c9, c10, rfl⟩
theorem list11 {α : Type} {l : List α} (h : l.length = 11) : ∃ c0 c1 c2 c3 c4 c5 c6 c7 c8 c9 c10, l = [c0, c1, c2, c3, c4, c5, c6, c7, c8, c9, c10] := by
  match l, h with
  | [c0, c1, c2, c3, c4, c5, c6, c7, c8, c9, c10], _ => exact ⟨c0, c1, c2, c3, c4, c5, c6, c7, c8, c9, c10, rfl⟩
theorem cellsOf4 : Tryd.prog.cellsOf 4 = 1 := by kernel_rfl
theorem cellsOfB : Tryd.prog.cellsOf 22 = 1 := by kernel_rfl
theorem cellsOfE : Tryd.prog.cellsOf 30 = 1 := by kernel_rfl
theorem bytesEntry : Tryd.prog.bytesOf 85 = 32 := by kernel_rfl
set_option maxRecDepth 100000 in
/-- Bytes that lie in a cell. -/
theorem open_bytes_cell {H : Type} {enc : TypeId × Value → H} {W : World} {v : Value} {x : DataW H × List MemPlace} {fuel : Nat} (hf : DataW.trod enc Tryd.prog W 0 (fun _ => true) true fuel 22 [v] = some x) : ∃ l, BytesV W v l := by
  rcases open_ints Tryd.underlying22 Tryd.underlying5 (by kernel_rfl) hf with ⟨hcs, _⟩ | ⟨x, l, c, zs, hcs, _, hl, hm, hz, hx, hcell, hwz⟩
  · simp only [List.cons.injEq, and_true] at hcs
    subst hcs
    exact ⟨[], none, 0, rfl, ⟨rfl, by simp, .inl rfl⟩, fun _ => rfl⟩
  · simp only [List.cons.injEq, and_true] at hcs
    subst hcs
    have hzc : zs.length = c := by simpa using hz
    have hll : ((zs.take l).map fun n : Int => BitVec.ofNat 8 n.toNat).length = l := by simp; omega
    refine ⟨(zs.take l).map fun n => BitVec.ofNat 8 n.toNat, some x, c, by rw [hll], ⟨rfl, by rw [hll]; omega, ?_⟩, fun e => by cases e⟩
    by_cases h0 : l = 0
    · exact .inl (by rw [hll]; exact h0)
    · obtain ⟨b, off, spot⟩ := x
      have hc0 := hcell 0 (by omega)
      have hspot : spot = none := by simpa [Addr.add] using World.cell?_spot hc0
      subst hspot
      refine .inr ⟨b, off, rfl, fun j hj => ?_⟩
      have hj1 : j < l := by rw [hll] at hj; exact hj
      have hj2 : j < zs.length := by omega
      have hcj := hcell j hj2
      have hadd : (⟨b, off, none⟩ : Addr).add j = ⟨b, off + j, none⟩ := by simp [Addr.add]
      rw [hadd] at hcj
      rw [hcj]
      have hwf := hwz zs[j] (List.getElem_mem hj2)
      have hbd : 0 ≤ zs[j] ∧ zs[j] ≤ 255 := by simpa [Lit.wf, IntKind.min, IntKind.max, IntKind.bits, IntKind.signed] using hwf
      have hg : ((zs.take l).map fun n : Int => BitVec.ofNat 8 n.toNat).getD j 0#8 = BitVec.ofNat 8 zs[j].toNat := by
        simp [hj1, hj2]
      rw [hg]
      have hV : V (BitVec.ofNat 8 zs[j].toNat) = zs[j] := by
        unfold V
        rw [BitVec.toNat_ofNat, Nat.mod_eq_of_lt (by omega)]
        omega
      rw [hV]
      simp [hj2]
set_option maxRecDepth 100000 in
/-- A message that came in. -/
theorem open_msg {H : Type} {enc : TypeId × Value → H} {W : World} {v : Value} {d : DataW H} {p : List MemPlace} {base : Nat} (hv : Value.okWide Tryd.prog W .any base 32 v) (h : DataW.Trod enc Tryd.prog W 0 (fun _ => true) true 32 v d p)
    {ts : List TypeId} {ds : List (DataW H)} (hsz : (DataW.weightsEach Tryd.prog ts ds).all (· ≤ reachBytes) = true) (j : Nat) (htj : ts[j]? = some 32) (hdj : ds[j]? = some d) :
    ∃ (hd : HeadD) (a : Option Addr) (n c : Nat) (ents : List (Int × List (BitVec 8))) (da : Option Addr) (dn dc : Nat) (data : List (BitVec 8)), v = hd.val (.slice a n c) (.slice da dn dc) ∧ hd.fine ∧ (∀ e ∈ ents, i64ok e.1) ∧ EntsAt W a n ents ∧ n ≤ 140737488355328 ∧ Seen W da dn data ∧ (da = none → dc = 0) := by
  obtain ⟨cs, rfl, hcz⟩ := okWide_struct Tryd.underlying32 hv
  obtain ⟨c0, c1, c2, c3, c4, c5, c6, c7, c8, c9, c10, rfl⟩ := array11 (hcz.trans (by kernel_rfl))
  obtain ⟨fuel, hf⟩ := h
  obtain ⟨xs, n, _, hx, _, hlen, hfld⟩ := DataW.trod_struct Tryd.underlying32 hf
  obtain ⟨y0, y1, y2, y3, y4, y5, y6, y7, y8, y9, y10, rfl⟩ := list11 (hlen.trans (by rfl))
  have g0 := hfld 0 _ rfl
  have g1 := hfld 1 _ rfl
  have g2 := hfld 2 _ rfl
  have g3 := hfld 3 _ rfl
  have g4 := hfld 4 _ rfl
  have g5 := hfld 5 _ rfl
  have g6 := hfld 6 _ rfl
  have g7 := hfld 7 _ rfl
  have g8 := hfld 8 _ rfl
  have g9 := hfld 9 _ rfl
  have g10 := hfld 10 _ rfl
  simp [Value.cells, cellsOf2, cellsOf3, cellsOf4, cellsOfB, cellsOfE] at g0 g1 g2 g3 g4 g5 g6 g7 g8 g9 g10
  obtain ⟨k0, e0, _, w0⟩ := DataW.trod_int Tryd.underlying3 g0
  obtain ⟨k1, e1, _, w1⟩ := DataW.trod_int Tryd.underlying3 g1
  obtain ⟨k2, e2, _, w2⟩ := DataW.trod_int Tryd.underlying3 g2
  obtain ⟨k3, e3, _, w3⟩ := DataW.trod_int Tryd.underlying3 g3
  obtain ⟨k4, e4, _, w4⟩ := DataW.trod_int Tryd.underlying2 g4
  obtain ⟨k5, e5, _, w5⟩ := DataW.trod_int Tryd.underlying2 g5
  obtain ⟨k6, e6, _, w6⟩ := DataW.trod_int Tryd.underlying2 g6
  obtain ⟨k7, e7, _, w7⟩ := DataW.trod_int Tryd.underlying2 g7
  obtain ⟨k8, e8, _⟩ := DataW.trod_bool Tryd.underlying4 g8
  simp only [List.cons.injEq, and_true] at e0 e1 e2 e3 e4 e5 e6 e7 e8
  subst e0 e1 e2 e3 e4 e5 e6 e7 e8
  obtain ⟨data, da, dc, rfl, sd, nd⟩ := open_bytes_cell g10
  have hdd : d = _ := congrArg Prod.fst hx
  simp only [List.map_cons, List.map_nil] at hdd
  have fine : HeadD.fine ⟨k0, k1, k2, k3, k4, k5, k6, k7, k8⟩ := ⟨i64_of_wf w0, i64_of_wf w1, i64_of_wf w2, i64_of_wf w3, i64_of_wf w4, i64_of_wf w5, i64_of_wf w6, i64_of_wf w7⟩
  rcases open_slice_pairs Tryd.underlying30 Tryd.underlying85 (by kernel_rfl) rfl rfl cellsOf2 cellsOfB g9 with ⟨hcs, _⟩ | ⟨x, len, cap, m, k, V0, V1, D0, D1, P0, P1, hcs, _, hlc, hcm, hm, hy, hcell⟩
  · simp only [List.cons.injEq, and_true] at hcs
    subst hcs
    exact ⟨⟨k0, k1, k2, k3, k4, k5, k6, k7, k8⟩, none, 0, 0, [], da, data.length, dc, data, rfl, fine, (fun r hr => by cases hr), ⟨rfl, .inl rfl⟩, by omega, sd, nd⟩
  · simp only [List.cons.injEq, and_true] at hcs
    subst hcs
    have hlen2 : len ≤ 140737488355328 := by
      have hy1 : y9.1 = _ := congrArg Prod.fst hy
      have h1 := List.all_eq_true.1 hsz _ (DataW.weights_mem_each htj hdj _ (by
        rw [hdd, DataW.weights, Tryd.underlying32]
        exact DataW.weights_mem_each (j := 9) (t := 30) (d := y9.1) rfl rfl _ (by rw [hy1, DataW.weights, Tryd.underlying30]; exact List.mem_cons_self)))
      rw [bytesEntry] at h1
      simp at h1
      unfold reachBytes at h1
      omega
    have hlm : len ≤ m := by rw [hm]; simpa using hlc
    have each : ∀ i, i < len → ∃ (z : Int) (l : List (BitVec 8)), V0 i = .int .i64 z ∧ i64ok z ∧ BytesV W (V1 i) l := fun i hi => by
      obtain ⟨_, _, q0, q1⟩ := hcell i (by omega)
      obtain ⟨z, e0, _, wz⟩ := DataW.trod_int Tryd.underlying2 q0
      obtain ⟨l, hl⟩ := open_bytes_cell q1
      simp only [List.cons.injEq, and_true] at e0
      exact ⟨z, l, e0, i64_of_wf wz, hl⟩
    have each2 : ∀ i : Nat, ∃ zl : Int × List (BitVec 8), i < len → V0 i = .int .i64 zl.1 ∧ i64ok zl.1 ∧ BytesV W (V1 i) zl.2 := fun i => by
      by_cases hi : i < len
      · obtain ⟨z, l, h1, h2, h3⟩ := each i hi
        exact ⟨(z, l), fun _ => ⟨h1, h2, h3⟩⟩
      · exact ⟨(0, []), fun h => absurd h hi⟩
    obtain ⟨f, hfn⟩ : ∃ f : Nat → Int × List (BitVec 8), ∀ i, i < len → V0 i = .int .i64 (f i).1 ∧ i64ok (f i).1 ∧ BytesV W (V1 i) (f i).2 := ⟨fun i => Classical.choose (each2 i), fun i => Classical.choose_spec (each2 i)⟩
    refine ⟨⟨k0, k1, k2, k3, k4, k5, k6, k7, k8⟩, some x, len, cap, (List.range len).map f, da, data.length, dc, data, rfl, fine, ?_, ⟨by simp, ?_⟩, hlen2, sd, nd⟩
    · intro r hr
      obtain ⟨i, hi, rfl⟩ := List.mem_map.1 hr
      exact (hfn i (List.mem_range.1 hi)).2.1
    · by_cases h0 : len = 0
      · exact .inl h0
      · obtain ⟨b, off, spot⟩ := x
        have hc0 := (hcell 0 (by omega)).1
        have hspot : spot = none := by simpa [Addr.add] using World.cell?_spot hc0
        subst hspot
        refine .inr ⟨b, off, rfl, fun j hj => ?_⟩
        have hj1 : j < len := by simpa using hj
        obtain ⟨q0, q1, _, _⟩ := hcell j (by omega)
        obtain ⟨h1, h2, h3⟩ := hfn j hj1
        rw [Addr.add_lit] at q0 q1
        simp only [List.getElem_map, List.getElem_range]
        rw [Nat.add_assoc]
        exact ⟨by rw [q0, h1], _, q1, h3⟩
end Go.Proofs.YtfdlgiomnmnhgaaDoor
