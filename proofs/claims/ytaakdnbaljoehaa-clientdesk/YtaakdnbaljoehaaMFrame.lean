/- What came in for MoverNil, opened. -/
import Derived.Test.YtaakdnbaljoehaaChBytes
namespace Go.Proofs.Ytaakdnbaljoehaa
open Go.ChangeShapes Go.WideShapes Go.ChangeAt Go.RowKit Go.Deep Go.Joins
set_option linter.unusedVariables false

theorem cellsM2 : Try.prog.cellsOf 2 = 1 := by kernel_rfl
theorem cellsM3 : Try.prog.cellsOf 3 = 1 := by kernel_rfl
theorem cellsM4 : Try.prog.cellsOf 4 = 1 := by kernel_rfl
theorem cellsM9 : Try.prog.cellsOf 9 = 1 := by kernel_rfl
theorem cellsME : Try.prog.cellsOf 25 = 1 := by kernel_rfl
theorem cellsMAO : Try.prog.cellsOf 23 = 7 := by kernel_rfl
theorem cellsMRp : Try.prog.cellsOf 28 = 3 := by kernel_rfl
theorem cellsMRw : Try.prog.cellsOf 26 = 1 := by kernel_rfl
theorem cellsMB : Try.prog.cellsOf 41 = 1 := by kernel_rfl
theorem listM3 {α : Type} {l : List α} (h : l.length = 3) : ∃ c0 c1 c2, l = [c0, c1, c2] := by
  match l, h with
  | [c0, c1, c2], _ => exact ⟨c0, c1, c2, rfl⟩
theorem listM4 {α : Type} {l : List α} (h : l.length = 4) : ∃ c0 c1 c2 c3, l = [c0, c1, c2, c3] := by
  match l, h with
  | [c0, c1, c2, c3], _ => exact ⟨c0, c1, c2, c3, rfl⟩
theorem listM6 {α : Type} {l : List α} (h : l.length = 6) : ∃ c0 c1 c2 c3 c4 c5, l = [c0, c1, c2, c3, c4, c5] := by
  match l, h with
  | [c0, c1, c2, c3, c4, c5], _ => exact ⟨c0, c1, c2, c3, c4, c5, rfl⟩
theorem listM7 {α : Type} {l : List α} (h : l.length = 7) : ∃ c0 c1 c2 c3 c4 c5 c6, l = [c0, c1, c2, c3, c4, c5, c6] := by
  match l, h with
  | [c0, c1, c2, c3, c4, c5, c6], _ => exact ⟨c0, c1, c2, c3, c4, c5, c6, rfl⟩
theorem listM2 {α : Type} {l : List α} (h : l.length = 2) : ∃ c0 c1, l = [c0, c1] := by
  match l, h with
  | [c0, c1], _ => exact ⟨c0, c1, rfl⟩
theorem listM11 {α : Type} {l : List α} (h : l.length = 11) : ∃ c0 c1 c2 c3 c4 c5 c6 c7 c8 c9 c10, l = [c0, c1, c2, c3, c4, c5, c6, c7, c8, c9, c10] := by
  match l, h with
  | [c0, c1, c2, c3, c4, c5, c6, c7, c8, c9, c10], _ => exact ⟨c0, c1, c2, c3, c4, c5, c6, c7, c8, c9, c10, rfl⟩
theorem listM17 {α : Type} {l : List α} (h : l.length = 17) : ∃ c0 c1 c2 c3 c4 c5 c6 c7 c8 c9 c10 c11 c12 c13 c14 c15 c16, l = [c0, c1, c2, c3, c4, c5, c6, c7, c8, c9, c10, c11, c12, c13, c14, c15, c16] := by
  match l, h with
  | [c0, c1, c2, c3, c4, c5, c6, c7, c8, c9, c10, c11, c12, c13, c14, c15, c16], _ => exact ⟨c0, c1, c2, c3, c4, c5, c6, c7, c8, c9, c10, c11, c12, c13, c14, c15, c16, rfl⟩
theorem listM18 {α : Type} {l : List α} (h : l.length = 18) : ∃ c0 c1 c2 c3 c4 c5 c6 c7 c8 c9 c10 c11 c12 c13 c14 c15 c16 c17, l = [c0, c1, c2, c3, c4, c5, c6, c7, c8, c9, c10, c11, c12, c13, c14, c15, c16, c17] := by
  match l, h with
  | [c0, c1, c2, c3, c4, c5, c6, c7, c8, c9, c10, c11, c12, c13, c14, c15, c16, c17], _ => exact ⟨c0, c1, c2, c3, c4, c5, c6, c7, c8, c9, c10, c11, c12, c13, c14, c15, c16, c17, rfl⟩
theorem listM31 {α : Type} {l : List α} (h : l.length = 31) : ∃ c0 c1 c2 c3 c4 c5 c6 c7 c8 c9 c10 c11 c12 c13 c14 c15 c16 c17 c18 c19 c20 c21 c22 c23 c24 c25 c26 c27 c28 c29 c30, l = [c0, c1, c2, c3, c4, c5, c6, c7, c8, c9, c10, c11, c12, c13, c14, c15, c16, c17, c18, c19, c20, c21, c22, c23, c24, c25, c26, c27, c28, c29, c30] := by
  match l, h with
  | [c0, c1, c2, c3, c4, c5, c6, c7, c8, c9, c10, c11, c12, c13, c14, c15, c16, c17, c18, c19, c20, c21, c22, c23, c24, c25, c26, c27, c28, c29, c30], _ => exact ⟨c0, c1, c2, c3, c4, c5, c6, c7, c8, c9, c10, c11, c12, c13, c14, c15, c16, c17, c18, c19, c20, c21, c22, c23, c24, c25, c26, c27, c28, c29, c30, rfl⟩
set_option maxRecDepth 100000 in
/-- Bytes that lie in a cell. -/
theorem open_bytesC {H : Type} {enc : TypeId × Value → H} {W : World} {v : Value} {x : DataW H × List MemPlace} {fuel : Nat} (hf : DataW.trod enc Try.prog W 0 (fun _ => true) true fuel 41 [v] = some x) (hw : ∀ n ∈ x.1.weights Try.prog 41, n ≤ reachBytes) :
    ∃ (l : List (BitVec 8)) (a : Option Addr) (c : Nat), v = .slice a l.length c ∧ Seen W a l.length l ∧ (a = none → c = 0) ∧ l.length ≤ 140737488351232 := by
  rcases open_ints Try.underlying41 Try.underlying5 (by kernel_rfl) hf with ⟨hcs, _⟩ | ⟨y, l, c, zs, hcs, _, hl, hm, hz, hx, hcell, hwz⟩
  · simp only [List.cons.injEq, and_true] at hcs
    subst hcs
    exact ⟨[], none, 0, rfl, ⟨rfl, by simp, .inl rfl⟩, (fun _ => rfl), by simp⟩
  · simp only [List.cons.injEq, and_true] at hcs
    subst hcs
    have hzc : zs.length = c := by simpa using hz
    have hll : ((zs.take l).map fun n : Int => BitVec.ofNat 8 n.toNat).length = l := by simp; omega
    have hb : c ≤ 140737488351232 := by
      have hd : x.1 = _ := congrArg Prod.fst hx
      have e1 : Try.prog.bytesOf 5 = 1 := by kernel_rfl
      have := hw ((lits .u8 (zs.take l)).length + (lits .u8 (zs.drop l)).length) (by
        rw [hd, DataW.weights, Try.underlying41]
        simp only [e1, Nat.mul_one]
        exact List.mem_cons_self)
      simp [lits] at this
      unfold reachBytes at this
      omega
    refine ⟨(zs.take l).map fun n => BitVec.ofNat 8 n.toNat, some y, c, by rw [hll], ⟨rfl, by rw [hll]; omega, ?_⟩, (fun e => by cases e), by rw [hll]; omega⟩
    by_cases h0 : l = 0
    · exact .inl (by rw [hll]; exact h0)
    · obtain ⟨b, off, spot⟩ := y
      have hc0 := hcell 0 (by omega)
      have hspot : spot = none := by simpa [Addr.add] using World.cell?_spot hc0
      subst hspot
      refine .inr ⟨b, off, rfl, fun j hj => ?_⟩
      have hj1 : j < l := by rw [hll] at hj; exact hj
      have hj2 : j < zs.length := by omega
      have hcj := hcell j hj2
      have hadd : (⟨b, off, none⟩ : Addr).add j = ⟨b, off + j, none⟩ := by simp [Addr.add]
      rw [hadd] at hcj
      rw [hcj]
      have hwf := hwz zs[j] (List.getElem_mem hj2)
      have hbd : 0 ≤ zs[j] ∧ zs[j] ≤ 255 := by simpa [Lit.wf, IntKind.min, IntKind.max, IntKind.bits, IntKind.signed] using hwf
      have hg : ((zs.take l).map fun n : Int => BitVec.ofNat 8 n.toNat).getD j 0#8 = BitVec.ofNat 8 zs[j].toNat := by
        simp [hj1, hj2]
      rw [hg]
      have hV : V (BitVec.ofNat 8 zs[j].toNat) = zs[j] := by
        unfold V
        rw [BitVec.toNat_ofNat, Nat.mod_eq_of_lt (by omega)]
        omega
      rw [hV]
      simp [hj2]
set_option maxRecDepth 100000 in
theorem open_aopC {H : Type} {enc : TypeId × Value → H} {W : World} {cs : List Value} {x : DataW H × List MemPlace} {fuel : Nat} (hl : cs.length = 7) (hf : DataW.trod enc Try.prog W 0 (fun _ => true) true fuel 23 cs = some x) : ∃ (k : Int) (f t : ByteArray) (a : Int) (y : ByteArray) (s h : Int), cs = [.int .i64 k, .string f, .string t, .int .i64 a, .string y, .int .i64 s, .int .i64 h] := by
  obtain ⟨c0, c1, c2, c3, c4, c5, c6, rfl⟩ := listM7 hl
  obtain ⟨xs, n, _, hx, _, hlen, hfld⟩ := DataW.trod_struct Try.underlying23 hf
  obtain ⟨y0, y1, y2, y3, y4, y5, y6, rfl⟩ := listM7 (hlen.trans (by rfl))
  have g0 := hfld 0 _ rfl
  have g1 := hfld 1 _ rfl
  have g2 := hfld 2 _ rfl
  have g3 := hfld 3 _ rfl
  have g4 := hfld 4 _ rfl
  have g5 := hfld 5 _ rfl
  have g6 := hfld 6 _ rfl
  simp [cellsM2, cellsM3, cellsM9] at g0 g1 g2 g3 g4 g5 g6
  obtain ⟨k0, e0, _, _⟩ := DataW.trod_int Try.underlying3 g0
  obtain ⟨k1, e1, _, _⟩ := DataW.trod_string Try.underlying9 g1
  obtain ⟨k2, e2, _, _⟩ := DataW.trod_string Try.underlying9 g2
  obtain ⟨k3, e3, _, _⟩ := DataW.trod_int Try.underlying2 g3
  obtain ⟨k4, e4, _, _⟩ := DataW.trod_string Try.underlying9 g4
  obtain ⟨k5, e5, _, _⟩ := DataW.trod_int Try.underlying3 g5
  obtain ⟨k6, e6, _, _⟩ := DataW.trod_int Try.underlying3 g6
  simp only [List.cons.injEq, and_true] at e0 e1 e2 e3 e4 e5 e6
  subst e0 e1 e2 e3 e4 e5 e6
  exact ⟨k0, k1, k2, k3, k4, k5, k6, rfl⟩
set_option maxRecDepth 100000 in
theorem open_repC {H : Type} {enc : TypeId × Value → H} {W : World} {cs : List Value} {x : DataW H × List MemPlace} {fuel : Nat} (hl : cs.length = 3) (hf : DataW.trod enc Try.prog W 0 (fun _ => true) true fuel 28 cs = some x) : ∃ (w a : Int) (r : Value), cs = [.int .i64 w, .int .i64 a, r] := by
  obtain ⟨c0, c1, c2, rfl⟩ := listM3 hl
  obtain ⟨xs, n, _, hx, _, hlen, hfld⟩ := DataW.trod_struct Try.underlying28 hf
  obtain ⟨y0, y1, y2, rfl⟩ := listM3 (hlen.trans (by rfl))
  have g0 := hfld 0 _ rfl
  have g1 := hfld 1 _ rfl
  have g2 := hfld 2 _ rfl
  simp [cellsM2, cellsME, cellsMRw] at g0 g1 g2
  obtain ⟨k0, e0, _, _⟩ := DataW.trod_int Try.underlying25 g0
  obtain ⟨k1, e1, _, _⟩ := DataW.trod_int Try.underlying2 g1
  simp only [List.cons.injEq, and_true] at e0 e1
  subst e0 e1
  exact ⟨k0, k1, c2, rfl⟩
end Go.Proofs.Ytaakdnbaljoehaa
