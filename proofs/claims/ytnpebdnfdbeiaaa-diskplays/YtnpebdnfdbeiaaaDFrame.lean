/- What came in, opened: operations, lists of them, numbers, bytes. -/
import Derived.Test.YtnpebdnfdbeiaaaDCrash
import Derived.Test.YtnpebdnfdbeiaaaRows
import Derived.ProofKit
import Derived.OpenShut
import Derived.ShutString
import Derived.ChangeOld
import Derived.SizedLaws
import Derived.Deep.Slices
namespace Go.Proofs.Ytnpebdnfdbeiaaa
open Go.ChangeShapes Go.WideShapes Go.ChangeAt Go.RowKit Go.Deep
set_option linter.unusedVariables false

theorem own : ownKnob Try.prog.godebug = none := by kernel_rfl
theorem laidOut : laidOutB Try.prog = true := by kernel_rfl
theorem cellsOf3 : Try.prog.cellsOf 3 = 1 := by kernel_rfl
theorem cellsOfBs : Try.prog.cellsOf 22 = 1 := by kernel_rfl
theorem cellsOfIs : Try.prog.cellsOf 42 = 1 := by kernel_rfl
theorem cellsOfOp : Try.prog.cellsOf 44 = 4 := by kernel_rfl
def i64in (n : Int) : Prop := -9223372036854775808 ≤ n ∧ n < 9223372036854775808
theorem i64in_of_wf {n : Int} (h : (Lit.int .i64 n).wf = true) : i64in n := by
  have : -9223372036854775808 ≤ n ∧ n ≤ 9223372036854775807 := by simpa [Lit.wf, IntKind.min, IntKind.max, IntKind.bits, IntKind.signed] using h
  exact ⟨this.1, by omega⟩
set_option maxRecDepth 100000 in
/-- Bytes that lie in a cell. -/
theorem open_bytes_at {H : Type} {enc : TypeId × Value → H} {W : World} {v : Value} {x : DataW H × List MemPlace} {fuel : Nat} (hf : DataW.trod enc Try.prog W 0 (fun _ => true) true fuel 22 [v] = some x) : ∃ l a cap, v = .slice a (List.length l) cap ∧ Seen W a l.length l ∧ (a = none → cap = 0) ∧ ((∀ g ∈ x.1.weights Try.prog 22, g ≤ reachBytes) → l.length ≤ 140737488351232) := by
  rcases open_ints Try.underlying22 Try.underlying5 (by kernel_rfl) hf with ⟨hcs, _⟩ | ⟨x, l, c, zs, hcs, _, hl, hm, hz, hx, hcell, hwz⟩
  · simp only [List.cons.injEq, and_true] at hcs
    subst hcs
    exact ⟨[], none, 0, rfl, ⟨rfl, by simp, .inl rfl⟩, fun _ => rfl, fun _ => by simp⟩
  · simp only [List.cons.injEq, and_true] at hcs
    subst hcs
    have hzc : zs.length = c := by simpa using hz
    have hll : ((zs.take l).map fun n : Int => BitVec.ofNat 8 n.toNat).length = l := by simp; omega
    refine ⟨(zs.take l).map fun n => BitVec.ofNat 8 n.toNat, some x, c, by rw [hll], ⟨rfl, by rw [hll]; omega, ?_⟩, (fun e => by cases e), fun hw => ?_⟩
    rotate_left
    · have hd := congrArg Prod.fst hx
      simp only at hd
      have := hw (c * 1) (by
        rw [hd, DataW.weights, Try.underlying22]
        have e1 : Try.prog.bytesOf 5 = 1 := by kernel_rfl
        refine List.mem_cons.2 (.inl ?_)
        rw [e1]
        simp [lits]
        omega)
      unfold reachBytes at this
      rw [hll]
      omega
    by_cases h0 : l = 0
    · exact .inl (by rw [hll]; exact h0)
    · obtain ⟨b, off, spot⟩ := x
      have hc0 := hcell 0 (by omega)
      have hspot : spot = none := by simpa [Addr.add] using World.cell?_spot hc0
      subst hspot
      refine .inr ⟨b, off, rfl, fun j hj => ?_⟩
      have hj1 : j < l := by rw [hll] at hj; exact hj
      have hj2 : j < zs.length := by omega
      have hcj := hcell j hj2
      have hadd : (⟨b, off, none⟩ : Addr).add j = ⟨b, off + j, none⟩ := by simp [Addr.add]
      rw [hadd] at hcj
      rw [hcj]
      have hwf := hwz zs[j] (List.getElem_mem hj2)
      have hbd : 0 ≤ zs[j] ∧ zs[j] ≤ 255 := by simpa [Lit.wf, IntKind.min, IntKind.max, IntKind.bits, IntKind.signed] using hwf
      have hg : ((zs.take l).map fun n : Int => BitVec.ofNat 8 n.toNat).getD j 0#8 = BitVec.ofNat 8 zs[j].toNat := by
        simp [hj1, hj2]
      rw [hg]
      have hV : V (BitVec.ofNat 8 zs[j].toNat) = zs[j] := by
        unfold V
        rw [BitVec.toNat_ofNat, Nat.mod_eq_of_lt (by omega)]
        omega
      rw [hV]
      simp [hj2]
set_option maxRecDepth 100000 in
/-- Numbers that lie in a cell. -/
theorem open_ints_at {H : Type} {enc : TypeId × Value → H} {W : World} {v : Value} {x : DataW H × List MemPlace} {fuel : Nat} (hf : DataW.trod enc Try.prog W 0 (fun _ => true) true fuel 42 [v] = some x) : ∃ zs a cap, v = .slice a (List.length zs) cap ∧ IAt W a zs.length zs := by
  rcases open_ints Try.underlying42 Try.underlying3 (by kernel_rfl) hf with ⟨hcs, _⟩ | ⟨x, l, c, zs, hcs, _, hl, hm, hz, hx, hcell, hwz⟩
  · simp only [List.cons.injEq, and_true] at hcs
    subst hcs
    exact ⟨[], none, 0, rfl, rfl, by simp, (fun z hz => by cases hz), .inl rfl⟩
  · simp only [List.cons.injEq, and_true] at hcs
    subst hcs
    have hzc : zs.length = c := by simpa using hz
    have hll : (zs.take l).length = l := by simp; omega
    refine ⟨zs.take l, some x, c, by rw [hll], rfl, by rw [hll]; omega, (fun z hz => ?_), ?_⟩
    · have hwf := hwz z (List.mem_of_mem_take hz)
      exact i64in_of_wf hwf
    · by_cases h0 : l = 0
      · exact .inl (by rw [hll]; exact h0)
      · obtain ⟨b, off, spot⟩ := x
        have hc0 := hcell 0 (by omega)
        have hspot : spot = none := by simpa [Addr.add] using World.cell?_spot hc0
        subst hspot
        refine .inr ⟨b, off, rfl, fun j hj => ?_⟩
        have hj1 : j < l := by rw [hll] at hj; exact hj
        have hj2 : j < zs.length := by omega
        have hcj := hcell j hj2
        have hadd : (⟨b, off, none⟩ : Addr).add j = ⟨b, off + j, none⟩ := by simp [Addr.add]
        rw [hadd] at hcj
        rw [hcj]
        simp [hj2]
/-- An operation. -/
structure OpX where
  k : Int
  n : Int
  ba : Option Addr
  bc : Nat
  b : List (BitVec 8)
  la : Option Addr
  lc : Nat
  zs : List Int
structure OpX.At (W : World) (o : OpX) : Prop where
  hk : i64in o.k
  hn : i64in o.n
  hb : Seen W o.ba o.b.length o.b
  hbn : o.ba = none → o.bc = 0
  hz : IAt W o.la o.zs.length o.zs
theorem OpX.At.below {W W' : World} {o : OpX} (h : o.At W) (b : Below W.heap.size W W') : o.At W' := ⟨h.hk, h.hn, h.hb.below b, h.hbn, h.hz.below b⟩
theorem list4 {α : Type} {l : List α} (h : l.length = 4) : ∃ c0 c1 c2 c3, l = [c0, c1, c2, c3] := by
  match l, h with
  | [c0, c1, c2, c3], _ => exact ⟨c0, c1, c2, c3, rfl⟩
set_option maxRecDepth 100000 in
/-- An operation's four cells. -/
theorem open_op_cells {H : Type} {enc : TypeId × Value → H} {W : World} {cs : List Value} {x : DataW H × List MemPlace} {fuel : Nat} (hl : cs.length = 4) (hf : DataW.trod enc Try.prog W 0 (fun _ => true) true fuel 44 cs = some x) :
    ∃ o : OpX, cs = [.int .i64 o.k, .int .i64 o.n, .slice o.ba o.b.length o.bc, .slice o.la o.zs.length o.lc] ∧ o.At W ∧ ((∀ g ∈ x.1.weights Try.prog 44, g ≤ reachBytes) → o.b.length ≤ 140737488351232) := by
  obtain ⟨c0, c1, c2, c3, rfl⟩ := list4 hl
  obtain ⟨xs, n, _, hx, _, hlen, hfld⟩ := DataW.trod_struct Try.underlying44 hf
  obtain ⟨y0, y1, y2, y3, rfl⟩ := list4 (hlen.trans (by rfl))
  have g0 := hfld 0 _ rfl
  have g1 := hfld 1 _ rfl
  have g2 := hfld 2 _ rfl
  have g3 := hfld 3 _ rfl
  simp [cellsOf3, cellsOfBs, cellsOfIs] at g0 g1 g2 g3
  obtain ⟨k0, e0, _, w0⟩ := DataW.trod_int Try.underlying3 g0
  obtain ⟨k1, e1, _, w1⟩ := DataW.trod_int Try.underlying3 g1
  simp only [List.cons.injEq, and_true] at e0 e1
  subst e0 e1
  obtain ⟨b, ba, bc, rfl, hb, hbn, hbw⟩ := open_bytes_at g2
  obtain ⟨zs, la, lc, rfl, hz⟩ := open_ints_at g3
  have hd : x.1 = _ := congrArg Prod.fst hx
  exact ⟨⟨k0, k1, ba, bc, b, la, lc, zs⟩, rfl, ⟨i64in_of_wf w0, i64in_of_wf w1, hb, hbn, hz⟩, fun hw => hbw (fun g hg => hw g (by
    rw [hd, DataW.weights, Try.underlying44]
    exact DataW.weights_mem_each (j := 2) (t := 22) (d := y2.1) rfl rfl _ hg))⟩
/-- An operation that came in. -/
theorem open_op {H : Type} {enc : TypeId × Value → H} {W : World} {v : Value} {d : DataW H} {p : List MemPlace} {base : Nat} (hv : Value.okWide Try.prog W .any base 44 v) (h : DataW.Trod enc Try.prog W 0 (fun _ => true) true 44 v d p) :
    ∃ o : OpX, v = .agg #[.int .i64 o.k, .int .i64 o.n, .slice o.ba o.b.length o.bc, .slice o.la o.zs.length o.lc] ∧ o.At W := by
  obtain ⟨cs, rfl, hsz⟩ := okWide_struct Try.underlying44 hv
  obtain ⟨fuel, hf⟩ := h
  obtain ⟨o, e, ho, _⟩ := open_op_cells (cs := cs.toList) (by simpa using hsz.trans (by kernel_rfl)) hf
  refine ⟨o, ?_, ho⟩
  congr 1
  apply Array.toList_inj.1
  rw [e]
/-- Operations in memory. -/
def OpsAt (W : World) (a : Option Addr) (n : Nat) (os : List OpX) : Prop :=
  n = os.length ∧ n ≤ maxLen ∧ (n = 0 ∨ ∃ b off, a = some ⟨b, off, none⟩ ∧ ∀ j (hj : j < os.length), os[j].At W ∧ W.cell? ⟨b, off + j * 4, none⟩ = some (.int .i64 os[j].k) ∧ W.cell? ⟨b, off + j * 4 + 1, none⟩ = some (.int .i64 os[j].n) ∧
    W.cell? ⟨b, off + j * 4 + 2, none⟩ = some (.slice os[j].ba os[j].b.length os[j].bc) ∧ W.cell? ⟨b, off + j * 4 + 3, none⟩ = some (.slice os[j].la os[j].zs.length os[j].lc))
theorem OpsAt.below {W W' : World} {a : Option Addr} {n : Nat} {os : List OpX} (h : OpsAt W a n os) (hb : Below W.heap.size W W') : OpsAt W' a n os := by
  obtain ⟨h1, h2, h3⟩ := h
  refine ⟨h1, h2, h3.imp id ?_⟩
  rintro ⟨b, off, rfl, hc⟩
  refine ⟨b, off, rfl, fun j hj => ?_⟩
  obtain ⟨o, c0, c1, c2, c3⟩ := hc j hj
  have one : ∀ p v, W.cell? p = some v → W'.cell? p = some v := fun p v hp => by rw [hb.cell (p := p) (World.block_lt_of_cell? W _ hp)]; exact hp
  exact ⟨o.below hb, one _ _ c0, one _ _ c1, one _ _ c2, one _ _ c3⟩
theorem weights_in {H : Type} {P : Program} {e : TypeId} {d : DataW H} {n : Nat} : ∀ {l : List (DataW H)}, d ∈ l → n ∈ d.weights P e → n ∈ DataW.weightsAll P e l
  | x :: l, h, hn => by
    rw [DataW.weightsAll]
    rcases List.mem_cons.1 h with rfl | h
    · exact List.mem_append.2 (.inl hn)
    · exact List.mem_append.2 (.inr (weights_in h hn))
set_option maxRecDepth 100000 in
/-- Operations that came in. -/
theorem open_ops {H : Type} {enc : TypeId × Value → H} {W : World} {v : Value} {d : DataW H} {p : List MemPlace} {base : Nat} (hv : Value.okWide Try.prog W .any base 23 v) (h : DataW.Trod enc Try.prog W 0 (fun _ => true) true 23 v d p)
    {ts : List TypeId} {ds : List (DataW H)} (hsz : (DataW.weightsEach Try.prog ts ds).all (· ≤ reachBytes) = true) (j : Nat) (htj : ts[j]? = some 23) (hdj : ds[j]? = some d) :
    ∃ (a : Option Addr) (len cap : Nat) (os : List OpX), v = .slice a len cap ∧ OpsAt W a len os ∧ ∀ o ∈ os, o.b.length ≤ 140737488351232 := by
  obtain ⟨a, len, cap, rfl⟩ := okWide_slice Try.underlying23 hv
  obtain ⟨fuel, hf⟩ := h
  rcases open_slice Try.underlying23 hf with ⟨hcs, _⟩ | ⟨x, ln, c, m, n, D, Pl, hcs, _, hl, hm, hmm, hx, hcell⟩
  · simp [Value.cells] at hcs
    obtain ⟨rfl, rfl, rfl⟩ := hcs
    exact ⟨none, 0, 0, [], rfl, ⟨rfl, by simp, .inl rfl⟩, fun o ho => by cases ho⟩
  · simp [Value.cells] at hcs
    obtain ⟨rfl, rfl, rfl⟩ := hcs
    have hlm : len ≤ m := by rw [hmm]; simpa using hl
    rw [cellsOfOp] at hcell
    have each2 : ∀ i : Nat, ∃ o : OpX, i < len → (o.At W ∧ o.b.length ≤ 140737488351232) ∧ W.cells? 0 (x.add (i * 4)) 4 = some [.int .i64 o.k, .int .i64 o.n, .slice o.ba o.b.length o.bc, .slice o.la o.zs.length o.lc] := fun i => by
      by_cases hi : i < len
      · obtain ⟨cs, h1, h2⟩ := hcell i (by omega)
        obtain ⟨_, hlen, _⟩ := World.cells?_some h1
        obtain ⟨o, e, ho, hw⟩ := open_op_cells hlen h2
        rw [e] at h1
        refine ⟨o, fun _ => ⟨⟨ho, hw fun g hg => ?_⟩, h1⟩⟩
        have hd := congrArg Prod.fst hx
        simp only at hd
        have := List.all_eq_true.1 hsz g (DataW.weights_mem_each htj hdj g (by
          rw [hd, DataW.weights, Try.underlying23]
          refine List.mem_cons.2 (.inr (List.mem_append.2 (.inl (weights_in ?_ hg))))
          exact List.mem_map.2 ⟨i, List.mem_range.2 hi, rfl⟩))
        simpa using this
      · exact ⟨⟨0, 0, none, 0, [], none, 0, []⟩, fun h => absurd h hi⟩
    obtain ⟨f, hfn⟩ : ∃ f : Nat → OpX, ∀ i, i < len → ((f i).At W ∧ (f i).b.length ≤ 140737488351232) ∧ W.cells? 0 (x.add (i * 4)) 4 = some [.int .i64 (f i).k, .int .i64 (f i).n, .slice (f i).ba (f i).b.length (f i).bc, .slice (f i).la (f i).zs.length (f i).lc] := ⟨fun i => Classical.choose (each2 i), fun i => Classical.choose_spec (each2 i)⟩
    refine ⟨some x, len, cap, (List.range len).map f, rfl, ⟨by simp, by omega, ?_⟩, fun o ho => by
      obtain ⟨i, hi, rfl⟩ := List.mem_map.1 ho
      exact (hfn i (List.mem_range.1 hi)).1.2⟩
    by_cases h0 : len = 0
    · exact .inl h0
    · have cellsAt : ∀ i, i < len → ∀ j v, j < 4 → [Value.int .i64 (f i).k, .int .i64 (f i).n, .slice (f i).ba (f i).b.length (f i).bc, .slice (f i).la (f i).zs.length (f i).lc][j]? = some v → W.cell? ((x.add (i * 4)).add j) = some v := fun i hi j v hj hv => by
        obtain ⟨_, _, hc⟩ := World.cells?_some (hfn i hi).2
        have := hc j (by simpa using hj)
        rw [← hv]
        simpa using this
      obtain ⟨b, off, spot⟩ := x
      have hc0 := cellsAt 0 (by omega) 0 _ (by omega) rfl
      have hspot : spot = none := by simpa [Addr.add] using World.cell?_spot hc0
      subst hspot
      refine .inr ⟨b, off, rfl, fun j hj => ?_⟩
      have hj1 : j < len := by simpa using hj
      have hadd : ∀ k, ((⟨b, off, none⟩ : Addr).add (j * 4)).add k = ⟨b, off + j * 4 + k, none⟩ := fun k => by rw [Addr.add_lit, Addr.add_lit]
      have q0 := cellsAt j hj1 0 _ (by omega) rfl
      have q1 := cellsAt j hj1 1 _ (by omega) rfl
      have q2 := cellsAt j hj1 2 _ (by omega) rfl
      have q3 := cellsAt j hj1 3 _ (by omega) rfl
      rw [hadd] at q0 q1 q2 q3
      simp only [List.getElem_map, List.getElem_range]
      exact ⟨(hfn j hj1).1.1, q0, q1, q2, q3⟩
/-- Numbers that came in. -/
theorem open_nums {H : Type} {enc : TypeId × Value → H} {W : World} {v : Value} {d : DataW H} {p : List MemPlace} {base : Nat} (hv : Value.okWide Try.prog W .any base 42 v) (h : DataW.Trod enc Try.prog W 0 (fun _ => true) true 42 v d p) :
    ∃ (zs : List Int) (a : Option Addr) (cap : Nat), v = .slice a zs.length cap ∧ IAt W a zs.length zs := by
  obtain ⟨a, len, cap, rfl⟩ := okWide_slice Try.underlying42 hv
  obtain ⟨fuel, hf⟩ := h
  exact open_ints_at (by simpa [Value.cells] using hf)
end Go.Proofs.Ytnpebdnfdbeiaaa
