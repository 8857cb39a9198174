/- A script that came in, opened. -/
import Derived.Test.YtccmehbdnnelhaaNFrame
import Derived.Test.YtccmehbdnnelhaaNLet
namespace Go.Proofs.Ytccmehbdnnelhaa
open Go.ChangeShapes Go.WideShapes Go.ChangeAt Go.RowKit Go.Deep
set_option linter.unusedVariables false

theorem cellsOf3 : Try.prog.cellsOf 3 = 1 := by kernel_rfl
theorem cellsOfBs : Try.prog.cellsOf 30 = 1 := by kernel_rfl
theorem cellsOfOpN : Try.prog.cellsOf 32 = 4 := by kernel_rfl
set_option maxRecDepth 100000 in
/-- Bytes that lie in a cell. -/
theorem open_bytes_at {H : Type} {enc : TypeId × Value → H} {W : World} {v : Value} {x : DataW H × List MemPlace} {fuel : Nat} (hf : DataW.trod enc Try.prog W 0 (fun _ => true) true fuel 30 [v] = some x) : ∃ l a cap, v = .slice a (List.length l) cap ∧ Seen W a l.length l ∧ (a = none → cap = 0) := by
  rcases open_ints Try.underlying30 Try.underlying5 (by kernel_rfl) hf with ⟨hcs, _⟩ | ⟨x, l, c, zs, hcs, _, hl, hm, hz, hx, hcell, hwz⟩
  · simp only [List.cons.injEq, and_true] at hcs
    subst hcs
    exact ⟨[], none, 0, rfl, ⟨rfl, by simp, .inl rfl⟩, fun _ => rfl⟩
  · simp only [List.cons.injEq, and_true] at hcs
    subst hcs
    have hzc : zs.length = c := by simpa using hz
    have hll : ((zs.take l).map fun n : Int => BitVec.ofNat 8 n.toNat).length = l := by simp; omega
    refine ⟨(zs.take l).map fun n => BitVec.ofNat 8 n.toNat, some x, c, by rw [hll], ⟨rfl, by rw [hll]; omega, ?_⟩, fun e => by cases e⟩
    by_cases h0 : l = 0
    · exact .inl (by rw [hll]; exact h0)
    · obtain ⟨b, off, spot⟩ := x
      have hc0 := hcell 0 (by omega)
      have hspot : spot = none := by simpa [Addr.add] using World.cell?_spot hc0
      subst hspot
      refine .inr ⟨b, off, rfl, fun j hj => ?_⟩
      have hj1 : j < l := by rw [hll] at hj; exact hj
      have hj2 : j < zs.length := by omega
      have hcj := hcell j hj2
      have hadd : (⟨b, off, none⟩ : Addr).add j = ⟨b, off + j, none⟩ := by simp [Addr.add]
      rw [hadd] at hcj
      rw [hcj]
      have hwf := hwz zs[j] (List.getElem_mem hj2)
      have hbd : 0 ≤ zs[j] ∧ zs[j] ≤ 255 := by simpa [Lit.wf, IntKind.min, IntKind.max, IntKind.bits, IntKind.signed] using hwf
      have hg : ((zs.take l).map fun n : Int => BitVec.ofNat 8 n.toNat).getD j 0#8 = BitVec.ofNat 8 zs[j].toNat := by
        simp [hj1, hj2]
      rw [hg]
      have hV : V (BitVec.ofNat 8 zs[j].toNat) = zs[j] := by
        unfold V
        rw [BitVec.toNat_ofNat, Nat.mod_eq_of_lt (by omega)]
        omega
      rw [hV]
      simp [hj2]
theorem list4 {α : Type} {l : List α} (h : l.length = 4) : ∃ c0 c1 c2 c3, l = [c0, c1, c2, c3] := by
  match l, h with
  | [c0, c1, c2, c3], _ => exact ⟨c0, c1, c2, c3, rfl⟩
set_option maxRecDepth 100000 in
theorem open_opN_cells {H : Type} {enc : TypeId × Value → H} {W : World} {cs : List Value} {x : DataW H × List MemPlace} {fuel : Nat} (hl : cs.length = 4) (hf : DataW.trod enc Try.prog W 0 (fun _ => true) true fuel 32 cs = some x) :
    ∃ o : OpN, cs = [.int .i64 o.k, .int .i64 o.f, .int .i64 o.n, .slice o.a o.b.length o.c] ∧ o.At W := by
  obtain ⟨c0, c1, c2, c3, rfl⟩ := list4 hl
  obtain ⟨xs, n, _, hx, _, hlen, hfld⟩ := DataW.trod_struct Try.underlying32 hf
  obtain ⟨y0, y1, y2, y3, rfl⟩ := list4 (hlen.trans (by rfl))
  have g0 := hfld 0 _ rfl
  have g1 := hfld 1 _ rfl
  have g2 := hfld 2 _ rfl
  have g3 := hfld 3 _ rfl
  simp [cellsOf3, cellsOfBs] at g0 g1 g2 g3
  obtain ⟨k0, e0, _, w0⟩ := DataW.trod_int Try.underlying3 g0
  obtain ⟨k1, e1, _, w1⟩ := DataW.trod_int Try.underlying3 g1
  obtain ⟨k2, e2, _, w2⟩ := DataW.trod_int Try.underlying3 g2
  simp only [List.cons.injEq, and_true] at e0 e1 e2
  subst e0 e1 e2
  obtain ⟨b, ba, bc, rfl, hb, hbn⟩ := open_bytes_at g3
  exact ⟨⟨k0, k1, k2, ba, bc, b⟩, rfl, ⟨w1, w2, hb, hbn⟩⟩
set_option maxRecDepth 100000 in
theorem open_letters {H : Type} {enc : TypeId × Value → H} {W : World} {v : Value} {d : DataW H} {p : List MemPlace} {base : Nat} (hv : Value.okWide Try.prog W .any base 22 v) (h : DataW.Trod enc Try.prog W 0 (fun _ => true) true 22 v d p) :
    ∃ (a : Option Addr) (len cap : Nat) (os : List OpN), v = .slice a len cap ∧ OpsN W a len os := by
  obtain ⟨a, len, cap, rfl⟩ := okWide_slice Try.underlying22 hv
  obtain ⟨fuel, hf⟩ := h
  rcases open_slice Try.underlying22 hf with ⟨hcs, _⟩ | ⟨x, ln, c, m, n, D, Pl, hcs, _, hl, hm, hmm, hx, hcell⟩
  · simp [Value.cells] at hcs
    obtain ⟨rfl, rfl, rfl⟩ := hcs
    exact ⟨none, 0, 0, [], rfl, ⟨rfl, .inl rfl⟩⟩
  · simp [Value.cells] at hcs
    obtain ⟨rfl, rfl, rfl⟩ := hcs
    have hlm : len ≤ m := by rw [hmm]; simpa using hl
    rw [cellsOfOpN] at hcell
    have each2 : ∀ i : Nat, ∃ o : OpN, i < len → o.At W ∧ W.cells? 0 (x.add (i * 4)) 4 = some [.int .i64 o.k, .int .i64 o.f, .int .i64 o.n, .slice o.a o.b.length o.c] := fun i => by
      by_cases hi : i < len
      · obtain ⟨cs, h1, h2⟩ := hcell i (by omega)
        obtain ⟨_, hlen, _⟩ := World.cells?_some h1
        obtain ⟨o, e, ho⟩ := open_opN_cells hlen h2
        rw [e] at h1
        exact ⟨o, fun _ => ⟨ho, h1⟩⟩
      · exact ⟨⟨0, 0, 0, none, 0, []⟩, fun h => absurd h hi⟩
    obtain ⟨f, hfn⟩ : ∃ f : Nat → OpN, ∀ i, i < len → (f i).At W ∧ W.cells? 0 (x.add (i * 4)) 4 = some [.int .i64 (f i).k, .int .i64 (f i).f, .int .i64 (f i).n, .slice (f i).a (f i).b.length (f i).c] := ⟨fun i => Classical.choose (each2 i), fun i => Classical.choose_spec (each2 i)⟩
    refine ⟨some x, len, cap, (List.range len).map f, rfl, ⟨by simp, ?_⟩⟩
    by_cases h0 : len = 0
    · exact .inl h0
    · have cellsAt : ∀ i, i < len → ∀ j v, j < 4 → [Value.int .i64 (f i).k, .int .i64 (f i).f, .int .i64 (f i).n, .slice (f i).a (f i).b.length (f i).c][j]? = some v → W.cell? ((x.add (i * 4)).add j) = some v := fun i hi j v hj hv => by
        obtain ⟨_, _, hc⟩ := World.cells?_some (hfn i hi).2
        have := hc j (by simpa using hj)
        rw [← hv]
        simpa using this
      obtain ⟨b, off, spot⟩ := x
      have hc0 := cellsAt 0 (by omega) 0 _ (by omega) rfl
      have hspot : spot = none := by simpa [Addr.add] using World.cell?_spot hc0
      subst hspot
      refine .inr ⟨b, off, rfl, fun j hj => ?_⟩
      have hj1 : j < len := by simpa using hj
      have hadd : ∀ k, ((⟨b, off, none⟩ : Addr).add (j * 4)).add k = ⟨b, off + j * 4 + k, none⟩ := fun k => by rw [Addr.add_lit, Addr.add_lit]
      have q0 := cellsAt j hj1 0 _ (by omega) rfl
      have q1 := cellsAt j hj1 1 _ (by omega) rfl
      have q2 := cellsAt j hj1 2 _ (by omega) rfl
      have q3 := cellsAt j hj1 3 _ (by omega) rfl
      rw [hadd] at q0 q1 q2 q3
      simp only [List.getElem_map, List.getElem_range]
      exact ⟨(hfn j hj1).1, q0, q1, q2, q3⟩
end Go.Proofs.Ytccmehbdnnelhaa

namespace Go.Proofs.Ytccmehbdnnelhaa
open Go.ChangeShapes Go.WideShapes Go.ChangeAt Go.RowKit Go.Deep
set_option linter.unusedVariables false
set_option maxRecDepth 100000 in
/-- Bytes that lie in a cell. -/
theorem open_bytesN {H : Type} {enc : TypeId × Value → H} {W : World} {v : Value} {x : DataW H × List MemPlace} {fuel : Nat} (hf : DataW.trod enc Try.prog W 0 (fun _ => true) true fuel 30 [v] = some x) : ∃ l a cap, v = .slice a (List.length l) cap ∧ Seen W a l.length l ∧ (a = none → cap = 0) ∧ ((∀ g ∈ x.1.weights Try.prog 30, g ≤ reachBytes) → l.length ≤ 140737488351232) := by
  rcases open_ints Try.underlying30 Try.underlying5 (by kernel_rfl) hf with ⟨hcs, _⟩ | ⟨x, l, c, zs, hcs, _, hl, hm, hz, hx, hcell, hwz⟩
  · simp only [List.cons.injEq, and_true] at hcs
    subst hcs
    exact ⟨[], none, 0, rfl, ⟨rfl, by simp, .inl rfl⟩, fun _ => rfl, fun _ => by simp⟩
  · simp only [List.cons.injEq, and_true] at hcs
    subst hcs
    have hzc : zs.length = c := by simpa using hz
    have hll : ((zs.take l).map fun n : Int => BitVec.ofNat 8 n.toNat).length = l := by simp; omega
    refine ⟨(zs.take l).map fun n => BitVec.ofNat 8 n.toNat, some x, c, by rw [hll], ⟨rfl, by rw [hll]; omega, ?_⟩, (fun e => by cases e), fun hw => ?_⟩
    rotate_left
    · have hd := congrArg Prod.fst hx
      simp only at hd
      have := hw (c * 1) (by
        rw [hd, DataW.weights, Try.underlying30]
        have e1 : Try.prog.bytesOf 5 = 1 := by kernel_rfl
        refine List.mem_cons.2 (.inl ?_)
        rw [e1]
        simp [lits]
        omega)
      unfold reachBytes at this
      rw [hll]
      omega
    by_cases h0 : l = 0
    · exact .inl (by rw [hll]; exact h0)
    · obtain ⟨b, off, spot⟩ := x
      have hc0 := hcell 0 (by omega)
      have hspot : spot = none := by simpa [Addr.add] using World.cell?_spot hc0
      subst hspot
      refine .inr ⟨b, off, rfl, fun j hj => ?_⟩
      have hj1 : j < l := by rw [hll] at hj; exact hj
      have hj2 : j < zs.length := by omega
      have hcj := hcell j hj2
      have hadd : (⟨b, off, none⟩ : Addr).add j = ⟨b, off + j, none⟩ := by simp [Addr.add]
      rw [hadd] at hcj
      rw [hcj]
      have hwf := hwz zs[j] (List.getElem_mem hj2)
      have hbd : 0 ≤ zs[j] ∧ zs[j] ≤ 255 := by simpa [Lit.wf, IntKind.min, IntKind.max, IntKind.bits, IntKind.signed] using hwf
      have hg : ((zs.take l).map fun n : Int => BitVec.ofNat 8 n.toNat).getD j 0#8 = BitVec.ofNat 8 zs[j].toNat := by
        simp [hj1, hj2]
      rw [hg]
      have hV : V (BitVec.ofNat 8 zs[j].toNat) = zs[j] := by
        unfold V
        rw [BitVec.toNat_ofNat, Nat.mod_eq_of_lt (by omega)]
        omega
      rw [hV]
      simp [hj2]
theorem weights_inN {H : Type} {P : Program} {e : TypeId} {d : DataW H} {n : Nat} : ∀ {l : List (DataW H)}, d ∈ l → n ∈ d.weights P e → n ∈ DataW.weightsAll P e l
  | x :: l, h, hn => by
    rw [DataW.weightsAll]
    rcases List.mem_cons.1 h with rfl | h
    · exact List.mem_append.2 (.inl hn)
    · exact List.mem_append.2 (.inr (weights_inN h hn))
set_option maxRecDepth 100000 in
theorem open_opM_cells {H : Type} {enc : TypeId × Value → H} {W : World} {cs : List Value} {x : DataW H × List MemPlace} {fuel : Nat} (hl : cs.length = 4) (hf : DataW.trod enc Try.prog W 0 (fun _ => true) true fuel 32 cs = some x) :
    ∃ o : OpN, cs = [.int .i64 o.k, .int .i64 o.f, .int .i64 o.n, .slice o.a o.b.length o.c] ∧ o.At W ∧ ((∀ g ∈ x.1.weights Try.prog 32, g ≤ reachBytes) → o.b.length ≤ 140737488351232) := by
  obtain ⟨c0, c1, c2, c3, rfl⟩ := list4 hl
  obtain ⟨xs, n, _, hx, _, hlen, hfld⟩ := DataW.trod_struct Try.underlying32 hf
  obtain ⟨y0, y1, y2, y3, rfl⟩ := list4 (hlen.trans (by rfl))
  have g0 := hfld 0 _ rfl
  have g1 := hfld 1 _ rfl
  have g2 := hfld 2 _ rfl
  have g3 := hfld 3 _ rfl
  simp [cellsOf3, cellsOfBs] at g0 g1 g2 g3
  obtain ⟨k0, e0, _, w0⟩ := DataW.trod_int Try.underlying3 g0
  obtain ⟨k1, e1, _, w1⟩ := DataW.trod_int Try.underlying3 g1
  obtain ⟨k2, e2, _, w2⟩ := DataW.trod_int Try.underlying3 g2
  simp only [List.cons.injEq, and_true] at e0 e1 e2
  subst e0 e1 e2
  obtain ⟨b, ba, bc, rfl, hb, hbn, hbw⟩ := open_bytesN g3
  have hdd : x.1 = _ := congrArg Prod.fst hx
  simp only [List.map_cons, List.map_nil] at hdd
  exact ⟨⟨k0, k1, k2, ba, bc, b⟩, rfl, ⟨w1, w2, hb, hbn⟩, fun hw => hbw fun n hn => hw n (by
    rw [hdd, DataW.weights, Try.underlying32]
    exact DataW.weights_mem_each (j := 3) (t := 30) (d := y3.1) rfl rfl n hn)⟩
set_option maxRecDepth 100000 in
theorem open_lettersM {H : Type} {enc : TypeId × Value → H} {W : World} {v : Value} {d : DataW H} {p : List MemPlace} {base : Nat} (hv : Value.okWide Try.prog W .any base 22 v) (h : DataW.Trod enc Try.prog W 0 (fun _ => true) true 22 v d p)
    {ts : List TypeId} {ds : List (DataW H)} (hsz : (DataW.weightsEach Try.prog ts ds).all (· ≤ reachBytes) = true) (j : Nat) (htj : ts[j]? = some 22) (hdj : ds[j]? = some d) :
    ∃ (a : Option Addr) (len cap : Nat) (os : List OpN), v = .slice a len cap ∧ OpsN W a len os ∧ ∀ o ∈ os, o.b.length ≤ 140737488351232 := by
  obtain ⟨a, len, cap, rfl⟩ := okWide_slice Try.underlying22 hv
  obtain ⟨fuel, hf⟩ := h
  rcases open_slice Try.underlying22 hf with ⟨hcs, _⟩ | ⟨x, ln, c, m, n, D, Pl, hcs, _, hl, hm, hmm, hx, hcell⟩
  · simp [Value.cells] at hcs
    obtain ⟨rfl, rfl, rfl⟩ := hcs
    exact ⟨none, 0, 0, [], rfl, ⟨rfl, .inl rfl⟩, fun o ho => by cases ho⟩
  · simp [Value.cells] at hcs
    obtain ⟨rfl, rfl, rfl⟩ := hcs
    have hlm : len ≤ m := by rw [hmm]; simpa using hl
    rw [cellsOfOpN] at hcell
    have each2 : ∀ i : Nat, ∃ o : OpN, i < len → (o.At W ∧ o.b.length ≤ 140737488351232) ∧ W.cells? 0 (x.add (i * 4)) 4 = some [.int .i64 o.k, .int .i64 o.f, .int .i64 o.n, .slice o.a o.b.length o.c] := fun i => by
      by_cases hi : i < len
      · obtain ⟨cs, h1, h2⟩ := hcell i (by omega)
        obtain ⟨_, hlen, _⟩ := World.cells?_some h1
        obtain ⟨o, e, ho, how⟩ := open_opM_cells hlen h2
        rw [e] at h1
        exact ⟨o, fun _ => ⟨⟨ho, how fun g hg => by
          have hd := congrArg Prod.fst hx
          simp only at hd
          have := List.all_eq_true.1 hsz g (DataW.weights_mem_each htj hdj g (by
            rw [hd, DataW.weights, Try.underlying22]
            refine List.mem_cons.2 (.inr (List.mem_append.2 (.inl (weights_inN ?_ hg))))
            exact List.mem_map.2 ⟨i, List.mem_range.2 hi, rfl⟩))
          simpa using this⟩, h1⟩⟩
      · exact ⟨⟨0, 0, 0, none, 0, []⟩, fun h => absurd h hi⟩
    obtain ⟨f, hfn⟩ : ∃ f : Nat → OpN, ∀ i, i < len → ((f i).At W ∧ (f i).b.length ≤ 140737488351232) ∧ W.cells? 0 (x.add (i * 4)) 4 = some [.int .i64 (f i).k, .int .i64 (f i).f, .int .i64 (f i).n, .slice (f i).a (f i).b.length (f i).c] := ⟨fun i => Classical.choose (each2 i), fun i => Classical.choose_spec (each2 i)⟩
    refine ⟨some x, len, cap, (List.range len).map f, rfl, ⟨by simp, ?_⟩, fun o ho => by
      obtain ⟨i, hi, rfl⟩ := List.mem_map.1 ho
      exact (hfn i (List.mem_range.1 hi)).1.2⟩
    by_cases h0 : len = 0
    · exact .inl h0
    · have cellsAt : ∀ i, i < len → ∀ j v, j < 4 → [Value.int .i64 (f i).k, .int .i64 (f i).f, .int .i64 (f i).n, .slice (f i).a (f i).b.length (f i).c][j]? = some v → W.cell? ((x.add (i * 4)).add j) = some v := fun i hi j v hj hv => by
        obtain ⟨_, _, hc⟩ := World.cells?_some (hfn i hi).2
        have := hc j (by simpa using hj)
        rw [← hv]
        simpa using this
      obtain ⟨b, off, spot⟩ := x
      have hc0 := cellsAt 0 (by omega) 0 _ (by omega) rfl
      have hspot : spot = none := by simpa [Addr.add] using World.cell?_spot hc0
      subst hspot
      refine .inr ⟨b, off, rfl, fun j hj => ?_⟩
      have hj1 : j < len := by simpa using hj
      have hadd : ∀ k, ((⟨b, off, none⟩ : Addr).add (j * 4)).add k = ⟨b, off + j * 4 + k, none⟩ := fun k => by rw [Addr.add_lit, Addr.add_lit]
      have q0 := cellsAt j hj1 0 _ (by omega) rfl
      have q1 := cellsAt j hj1 1 _ (by omega) rfl
      have q2 := cellsAt j hj1 2 _ (by omega) rfl
      have q3 := cellsAt j hj1 3 _ (by omega) rfl
      rw [hadd] at q0 q1 q2 q3
      simp only [List.getElem_map, List.getElem_range]
      exact ⟨(hfn j hj1).1.1, q0, q1, q2, q3⟩
end Go.Proofs.Ytccmehbdnnelhaa
