/- What the plain rows' proofs are told of. -/
import Derived.Test.YtogbcciocgpknaaRows
import Derived.Test.YtogbcciocgpknaaChecked
import Derived.ProofKit
import Derived.OpenShut
import Derived.ShutString
import Derived.ChangeOld
import Derived.LaidMore
import Derived.Deep.DeepHandedRow
import Derived.SizedLaws
import Derived.Test.YtogbcciocgpknaaTaA
import Derived.Lib.SmallJoins
import Derived.Deep.SlicePairs
namespace Go.Proofs.Ytogbcciocgpknaa
open Go.ChangeShapes Go.WideShapes Go.ChangeAt Go.RowKit

theorem own : ownKnob Try.prog.godebug = none := by kernel_rfl
theorem laidOut : laidOutB Try.prog = true := by kernel_rfl
theorem wfI {z : Int} (h : (Lit.int .i64 z).wf = true) : -9223372036854775808 ≤ z ∧ z ≤ 9223372036854775807 := by
  simpa [Lit.wf, IntKind.min, IntKind.max, IntKind.bits, IntKind.signed] using h
end Go.Proofs.Ytogbcciocgpknaa

namespace Go.Proofs.Ytogbcciocgpknaa
open Go.ChangeShapes Go.WideShapes Go.ChangeAt Go.RowKit Go.Deep
set_option linter.unusedVariables false

set_option maxRecDepth 100000 in
theorem open_bytes {H : Type} {enc : TypeId × Value → H} {W : World} {v : Value} {d : DataW H} {p : List MemPlace} {base : Nat} (hv : Value.okWide Try.prog W .any base 25 v) (h : DataW.Trod enc Try.prog W 0 (fun _ => true) true 25 v d p) :
    ∃ (a : Option Addr) (len cap : Nat) (l : List (BitVec 8)), v = .slice a len cap ∧ Seen W a len l ∧ len ≤ cap ∧ (a = none → cap = 0) ∧ (cap = 0 ∨ ∃ es sp, d = .slice es sp ∧ es.length + sp.length = cap) := by
  obtain ⟨a, len, cap, rfl⟩ := okWide_slice Try.underlying25 hv
  obtain ⟨fuel, hf⟩ := h
  rcases open_ints Try.underlying25 Try.underlying5 (by kernel_rfl) hf with ⟨hcs, _⟩ | ⟨x, l, c, zs, hcs, _, hl, hm, hz, hx, hcell, hwz⟩
  · simp [Value.cells] at hcs
    obtain ⟨rfl, rfl, rfl⟩ := hcs
    exact ⟨none, 0, 0, [], rfl, ⟨rfl, by simp, .inl rfl⟩, Nat.le_refl _, fun _ => rfl, .inl rfl⟩
  · simp [Value.cells] at hcs
    obtain ⟨rfl, rfl, rfl⟩ := hcs
    have hzc : zs.length = cap := by simpa using hz
    have hd := congrArg Prod.fst hx
    refine ⟨some x, len, cap, (zs.take len).map fun n => BitVec.ofNat 8 n.toNat, rfl, ⟨by simp; omega, by simp; omega, ?_⟩, hl, (fun e => by cases e), .inr ⟨_, _, hd, by simp [lits]; omega⟩⟩
    by_cases h0 : len = 0
    · exact .inl h0
    · obtain ⟨b, off, spot⟩ := x
      have hc0 := hcell 0 (by omega)
      have hspot : spot = none := by simpa [Addr.add] using World.cell?_spot hc0
      subst hspot
      refine .inr ⟨b, off, rfl, fun j hj => ?_⟩
      have hj1 : j < len := by simp at hj; omega
      have hj2 : j < zs.length := by omega
      have hcj := hcell j hj2
      have hadd : (⟨b, off, none⟩ : Addr).add j = ⟨b, off + j, none⟩ := by simp [Addr.add]
      rw [hadd] at hcj
      rw [hcj]
      have hwf := hwz zs[j] (List.getElem_mem hj2)
      have hbd : 0 ≤ zs[j] ∧ zs[j] ≤ 255 := by simpa [Lit.wf, IntKind.min, IntKind.max, IntKind.bits, IntKind.signed] using hwf
      have hg : ((zs.take len).map fun n : Int => BitVec.ofNat 8 n.toNat).getD j 0#8 = BitVec.ofNat 8 zs[j].toNat := by
        simp [hj1, hj2]
      rw [hg]
      have hV : V (BitVec.ofNat 8 zs[j].toNat) = zs[j] := by
        unfold V
        rw [BitVec.toNat_ofNat, Nat.mod_eq_of_lt (by omega)]
        omega
      rw [hV]
      simp [hj2]
set_option maxRecDepth 100000 in
theorem open_bytesS {H : Type} {enc : TypeId × Value → H} {W : World} {v : Value} {d : DataW H} {p : List MemPlace} {base : Nat} (hv : Value.okWide Try.prog W .any base 25 v) (h : DataW.Trod enc Try.prog W 0 (fun _ => true) true 25 v d p)
    {ts : List TypeId} {ds : List (DataW H)} (hsz : (DataW.weightsEach Try.prog ts ds).all (· ≤ reachBytes) = true) (j : Nat) (htj : ts[j]? = some 25) (hdj : ds[j]? = some d) :
    ∃ (l : List (BitVec 8)) (a : Option Addr) (cap : Nat), v = .slice a l.length cap ∧ Seen W a l.length l ∧ l.length ≤ cap ∧ (a = none → cap = 0) ∧ cap ≤ 140737488351232 := by
  obtain ⟨a, len, cap, l, rfl, hs, hc, hn, hd⟩ := open_bytes hv h
  have e := hs.1
  subst e
  refine ⟨l, a, cap, rfl, hs, hc, hn, ?_⟩
  rcases hd with rfl | ⟨es, sp, rfl, e⟩
  · omega
  · have := List.all_eq_true.1 hsz (cap * 1) (DataW.weights_mem_each htj hdj _ (by
      rw [DataW.weights, Try.underlying25]
      have e1 : Try.prog.bytesOf 5 = 1 := by kernel_rfl
      refine List.mem_cons.2 (.inl ?_)
      rw [e1]
      first | (simp; omega) | omega | (rw [← e]; simp)))
    have h2 : cap * 1 ≤ reachBytes := by simpa using this
    unfold reachBytes at h2
    omega
end Go.Proofs.Ytogbcciocgpknaa

namespace Go.Proofs.Ytogbcciocgpknaa
open Go.ChangeShapes Go.WideShapes Go.ChangeAt Go.RowKit Go.Deep Go.Joins
set_option linter.unusedVariables false

theorem cellsM2 : Try.prog.cellsOf 2 = 1 := by kernel_rfl
theorem cellsM3 : Try.prog.cellsOf 3 = 1 := by kernel_rfl
theorem cellsM4 : Try.prog.cellsOf 4 = 1 := by kernel_rfl
theorem cellsM9 : Try.prog.cellsOf 9 = 1 := by kernel_rfl
theorem cellsME : Try.prog.cellsOf 24 = 1 := by kernel_rfl
theorem cellsMAO : Try.prog.cellsOf 23 = 7 := by kernel_rfl
theorem cellsMRp : Try.prog.cellsOf 32 = 3 := by kernel_rfl
theorem cellsMRw : Try.prog.cellsOf 30 = 1 := by kernel_rfl
theorem cellsMB : Try.prog.cellsOf 25 = 1 := by kernel_rfl
theorem cellsMCm : Try.prog.cellsOf 27 = 17 := by kernel_rfl
theorem cellsMA : Try.prog.cellsOf 29 = 18 := by kernel_rfl
theorem cellsMRs : Try.prog.cellsOf 34 = 6 := by kernel_rfl
theorem listM3 {α : Type} {l : List α} (h : l.length = 3) : ∃ c0 c1 c2, l = [c0, c1, c2] := by
  match l, h with
  | [c0, c1, c2], _ => exact ⟨c0, c1, c2, rfl⟩
theorem listM4 {α : Type} {l : List α} (h : l.length = 4) : ∃ c0 c1 c2 c3, l = [c0, c1, c2, c3] := by
  match l, h with
  | [c0, c1, c2, c3], _ => exact ⟨c0, c1, c2, c3, rfl⟩
theorem listM6 {α : Type} {l : List α} (h : l.length = 6) : ∃ c0 c1 c2 c3 c4 c5, l = [c0, c1, c2, c3, c4, c5] := by
  match l, h with
  | [c0, c1, c2, c3, c4, c5], _ => exact ⟨c0, c1, c2, c3, c4, c5, rfl⟩
theorem listM7 {α : Type} {l : List α} (h : l.length = 7) : ∃ c0 c1 c2 c3 c4 c5 c6, l = [c0, c1, c2, c3, c4, c5, c6] := by
  match l, h with
  | [c0, c1, c2, c3, c4, c5, c6], _ => exact ⟨c0, c1, c2, c3, c4, c5, c6, rfl⟩
theorem listM2 {α : Type} {l : List α} (h : l.length = 2) : ∃ c0 c1, l = [c0, c1] := by
  match l, h with
  | [c0, c1], _ => exact ⟨c0, c1, rfl⟩
theorem listM11 {α : Type} {l : List α} (h : l.length = 11) : ∃ c0 c1 c2 c3 c4 c5 c6 c7 c8 c9 c10, l = [c0, c1, c2, c3, c4, c5, c6, c7, c8, c9, c10] := by
  match l, h with
  | [c0, c1, c2, c3, c4, c5, c6, c7, c8, c9, c10], _ => exact ⟨c0, c1, c2, c3, c4, c5, c6, c7, c8, c9, c10, rfl⟩
theorem listM17 {α : Type} {l : List α} (h : l.length = 17) : ∃ c0 c1 c2 c3 c4 c5 c6 c7 c8 c9 c10 c11 c12 c13 c14 c15 c16, l = [c0, c1, c2, c3, c4, c5, c6, c7, c8, c9, c10, c11, c12, c13, c14, c15, c16] := by
  match l, h with
  | [c0, c1, c2, c3, c4, c5, c6, c7, c8, c9, c10, c11, c12, c13, c14, c15, c16], _ => exact ⟨c0, c1, c2, c3, c4, c5, c6, c7, c8, c9, c10, c11, c12, c13, c14, c15, c16, rfl⟩
theorem listM18 {α : Type} {l : List α} (h : l.length = 18) : ∃ c0 c1 c2 c3 c4 c5 c6 c7 c8 c9 c10 c11 c12 c13 c14 c15 c16 c17, l = [c0, c1, c2, c3, c4, c5, c6, c7, c8, c9, c10, c11, c12, c13, c14, c15, c16, c17] := by
  match l, h with
  | [c0, c1, c2, c3, c4, c5, c6, c7, c8, c9, c10, c11, c12, c13, c14, c15, c16, c17], _ => exact ⟨c0, c1, c2, c3, c4, c5, c6, c7, c8, c9, c10, c11, c12, c13, c14, c15, c16, c17, rfl⟩
theorem listM31 {α : Type} {l : List α} (h : l.length = 31) : ∃ c0 c1 c2 c3 c4 c5 c6 c7 c8 c9 c10 c11 c12 c13 c14 c15 c16 c17 c18 c19 c20 c21 c22 c23 c24 c25 c26 c27 c28 c29 c30, l = [c0, c1, c2, c3, c4, c5, c6, c7, c8, c9, c10, c11, c12, c13, c14, c15, c16, c17, c18, c19, c20, c21, c22, c23, c24, c25, c26, c27, c28, c29, c30] := by
  match l, h with
  | [c0, c1, c2, c3, c4, c5, c6, c7, c8, c9, c10, c11, c12, c13, c14, c15, c16, c17, c18, c19, c20, c21, c22, c23, c24, c25, c26, c27, c28, c29, c30], _ => exact ⟨c0, c1, c2, c3, c4, c5, c6, c7, c8, c9, c10, c11, c12, c13, c14, c15, c16, c17, c18, c19, c20, c21, c22, c23, c24, c25, c26, c27, c28, c29, c30, rfl⟩
set_option maxRecDepth 100000 in
/-- Bytes that lie in a cell. -/
theorem open_bytesC {H : Type} {enc : TypeId × Value → H} {W : World} {v : Value} {x : DataW H × List MemPlace} {fuel : Nat} (hf : DataW.trod enc Try.prog W 0 (fun _ => true) true fuel 25 [v] = some x) (hw : ∀ n ∈ x.1.weights Try.prog 25, n ≤ reachBytes) :
    ∃ (l : List (BitVec 8)) (a : Option Addr) (c : Nat), v = .slice a l.length c ∧ Seen W a l.length l ∧ (a = none → c = 0) ∧ l.length ≤ 140737488351232 := by
  rcases open_ints Try.underlying25 Try.underlying5 (by kernel_rfl) hf with ⟨hcs, _⟩ | ⟨y, l, c, zs, hcs, _, hl, hm, hz, hx, hcell, hwz⟩
  · simp only [List.cons.injEq, and_true] at hcs
    subst hcs
    exact ⟨[], none, 0, rfl, ⟨rfl, by simp, .inl rfl⟩, (fun _ => rfl), by simp⟩
  · simp only [List.cons.injEq, and_true] at hcs
    subst hcs
    have hzc : zs.length = c := by simpa using hz
    have hll : ((zs.take l).map fun n : Int => BitVec.ofNat 8 n.toNat).length = l := by simp; omega
    have hb : c ≤ 140737488351232 := by
      have hd : x.1 = _ := congrArg Prod.fst hx
      have e1 : Try.prog.bytesOf 5 = 1 := by kernel_rfl
      have := hw ((lits .u8 (zs.take l)).length + (lits .u8 (zs.drop l)).length) (by
        rw [hd, DataW.weights, Try.underlying25]
        simp only [e1, Nat.mul_one]
        exact List.mem_cons_self)
      simp [lits] at this
      unfold reachBytes at this
      omega
    refine ⟨(zs.take l).map fun n => BitVec.ofNat 8 n.toNat, some y, c, by rw [hll], ⟨rfl, by rw [hll]; omega, ?_⟩, (fun e => by cases e), by rw [hll]; omega⟩
    by_cases h0 : l = 0
    · exact .inl (by rw [hll]; exact h0)
    · obtain ⟨b, off, spot⟩ := y
      have hc0 := hcell 0 (by omega)
      have hspot : spot = none := by simpa [Addr.add] using World.cell?_spot hc0
      subst hspot
      refine .inr ⟨b, off, rfl, fun j hj => ?_⟩
      have hj1 : j < l := by rw [hll] at hj; exact hj
      have hj2 : j < zs.length := by omega
      have hcj := hcell j hj2
      have hadd : (⟨b, off, none⟩ : Addr).add j = ⟨b, off + j, none⟩ := by simp [Addr.add]
      rw [hadd] at hcj
      rw [hcj]
      have hwf := hwz zs[j] (List.getElem_mem hj2)
      have hbd : 0 ≤ zs[j] ∧ zs[j] ≤ 255 := by simpa [Lit.wf, IntKind.min, IntKind.max, IntKind.bits, IntKind.signed] using hwf
      have hg : ((zs.take l).map fun n : Int => BitVec.ofNat 8 n.toNat).getD j 0#8 = BitVec.ofNat 8 zs[j].toNat := by
        simp [hj1, hj2]
      rw [hg]
      have hV : V (BitVec.ofNat 8 zs[j].toNat) = zs[j] := by
        unfold V
        rw [BitVec.toNat_ofNat, Nat.mod_eq_of_lt (by omega)]
        omega
      rw [hV]
      simp [hj2]
set_option maxRecDepth 100000 in
theorem open_aopC {H : Type} {enc : TypeId × Value → H} {W : World} {cs : List Value} {x : DataW H × List MemPlace} {fuel : Nat} (hl : cs.length = 7) (hf : DataW.trod enc Try.prog W 0 (fun _ => true) true fuel 23 cs = some x) : ∃ (k : Int) (f t : ByteArray) (a : Int) (y : ByteArray) (s h : Int), cs = [.int .i64 k, .string f, .string t, .int .i64 a, .string y, .int .i64 s, .int .i64 h] := by
  obtain ⟨c0, c1, c2, c3, c4, c5, c6, rfl⟩ := listM7 hl
  obtain ⟨xs, n, _, hx, _, hlen, hfld⟩ := DataW.trod_struct Try.underlying23 hf
  obtain ⟨y0, y1, y2, y3, y4, y5, y6, rfl⟩ := listM7 (hlen.trans (by rfl))
  have g0 := hfld 0 _ rfl
  have g1 := hfld 1 _ rfl
  have g2 := hfld 2 _ rfl
  have g3 := hfld 3 _ rfl
  have g4 := hfld 4 _ rfl
  have g5 := hfld 5 _ rfl
  have g6 := hfld 6 _ rfl
  simp [cellsM2, cellsM3, cellsM9] at g0 g1 g2 g3 g4 g5 g6
  obtain ⟨k0, e0, _, _⟩ := DataW.trod_int Try.underlying3 g0
  obtain ⟨k1, e1, _, _⟩ := DataW.trod_string Try.underlying9 g1
  obtain ⟨k2, e2, _, _⟩ := DataW.trod_string Try.underlying9 g2
  obtain ⟨k3, e3, _, _⟩ := DataW.trod_int Try.underlying2 g3
  obtain ⟨k4, e4, _, _⟩ := DataW.trod_string Try.underlying9 g4
  obtain ⟨k5, e5, _, _⟩ := DataW.trod_int Try.underlying3 g5
  obtain ⟨k6, e6, _, _⟩ := DataW.trod_int Try.underlying3 g6
  simp only [List.cons.injEq, and_true] at e0 e1 e2 e3 e4 e5 e6
  subst e0 e1 e2 e3 e4 e5 e6
  exact ⟨k0, k1, k2, k3, k4, k5, k6, rfl⟩
set_option maxRecDepth 100000 in
theorem open_cmdC {H : Type} {enc : TypeId × Value → H} {W : World} {cs : List Value} {x : DataW H × List MemPlace} {fuel : Nat} (hl : cs.length = 17) (hf : DataW.trod enc Try.prog W 0 (fun _ => true) true fuel 27 cs = some x) (hw : ∀ n ∈ x.1.weights Try.prog 27, n ≤ reachBytes) : ∃ (k ok : Int) (of_ ot : ByteArray) (oa : Int) (oy : ByteArray) (os oh : Int) (id nm : ByteArray) (cn why slot cep at_ : Int) (last : Bool) (da : Option Addr) (dc : Nat) (dl : List (BitVec 8)), cs = [.int .i64 k, .int .i64 ok, .string of_, .string ot, .int .i64 oa, .string oy, .int .i64 os, .int .i64 oh, .string id, .string nm, .int .i64 cn, .int .i64 why, .int .i64 slot, .int .i64 cep, .int .i64 at_, .bool last, .slice da dl.length dc] ∧ Seen W da dl.length dl ∧ (da = none → dc = 0) ∧ dl.length ≤ 140737488351232 := by
  obtain ⟨c0, c1, c2, c3, c4, c5, c6, c7, c8, c9, c10, c11, c12, c13, c14, c15, c16, rfl⟩ := listM17 hl
  obtain ⟨xs, n, _, hx, _, hlen, hfld⟩ := DataW.trod_struct Try.underlying27 hf
  obtain ⟨y0, y1, y2, y3, y4, y5, y6, y7, y8, y9, y10, rfl⟩ := listM11 (hlen.trans (by rfl))
  have g0 := hfld 0 _ rfl
  have g1 := hfld 1 _ rfl
  have g2 := hfld 2 _ rfl
  have g3 := hfld 3 _ rfl
  have g4 := hfld 4 _ rfl
  have g5 := hfld 5 _ rfl
  have g6 := hfld 6 _ rfl
  have g7 := hfld 7 _ rfl
  have g8 := hfld 8 _ rfl
  have g9 := hfld 9 _ rfl
  have g10 := hfld 10 _ rfl
  simp [cellsM2, cellsM3, cellsM4, cellsM9, cellsME, cellsMAO, cellsMB] at g0 g1 g2 g3 g4 g5 g6 g7 g8 g9 g10
  obtain ⟨k0, e0, _, _⟩ := DataW.trod_int Try.underlying3 g0
  obtain ⟨o0, o1, o2, o3, o4, o5, o6, e1⟩ := open_aopC rfl g1
  obtain ⟨k2, e2, _, _⟩ := DataW.trod_string Try.underlying9 g2
  obtain ⟨k3, e3, _, _⟩ := DataW.trod_string Try.underlying9 g3
  obtain ⟨k4, e4, _, _⟩ := DataW.trod_int Try.underlying2 g4
  obtain ⟨k5, e5, _, _⟩ := DataW.trod_int Try.underlying24 g5
  obtain ⟨k6, e6, _, _⟩ := DataW.trod_int Try.underlying3 g6
  obtain ⟨k7, e7, _, _⟩ := DataW.trod_int Try.underlying2 g7
  obtain ⟨k8, e8, _, _⟩ := DataW.trod_int Try.underlying3 g8
  obtain ⟨k9, e9, _⟩ := DataW.trod_bool Try.underlying4 g9
  have hdd : x.1 = _ := congrArg Prod.fst hx
  simp only [List.map_cons, List.map_nil] at hdd
  obtain ⟨dl, da, dc, e10, sd, nd, bd⟩ := open_bytesC g10 (fun n hn => hw n (by
    rw [hdd, DataW.weights, Try.underlying27]
    exact DataW.weights_mem_each (j := 10) (t := 25) (d := y10.1) rfl rfl n hn))
  simp only [List.cons.injEq, and_true] at e0 e1 e2 e3 e4 e5 e6 e7 e8 e9
  obtain ⟨p0, p1, p2, p3, p4, p5, p6⟩ := e1
  subst e0 p0 p1 p2 p3 p4 p5 p6 e2 e3 e4 e5 e6 e7 e8 e9 e10
  exact ⟨k0, o0, o1, o2, o3, o4, o5, o6, k2, k3, k4, k5, k6, k7, k8, k9, da, dc, dl, rfl, sd, nd, bd⟩
set_option maxRecDepth 100000 in
theorem open_repC {H : Type} {enc : TypeId × Value → H} {W : World} {cs : List Value} {x : DataW H × List MemPlace} {fuel : Nat} (hl : cs.length = 3) (hf : DataW.trod enc Try.prog W 0 (fun _ => true) true fuel 32 cs = some x) : ∃ (w a : Int) (r : Value), cs = [.int .i64 w, .int .i64 a, r] := by
  obtain ⟨c0, c1, c2, rfl⟩ := listM3 hl
  obtain ⟨xs, n, _, hx, _, hlen, hfld⟩ := DataW.trod_struct Try.underlying32 hf
  obtain ⟨y0, y1, y2, rfl⟩ := listM3 (hlen.trans (by rfl))
  have g0 := hfld 0 _ rfl
  have g1 := hfld 1 _ rfl
  have g2 := hfld 2 _ rfl
  simp [cellsM2, cellsME, cellsMRw] at g0 g1 g2
  obtain ⟨k0, e0, _, _⟩ := DataW.trod_int Try.underlying24 g0
  obtain ⟨k1, e1, _, _⟩ := DataW.trod_int Try.underlying2 g1
  simp only [List.cons.injEq, and_true] at e0 e1
  subst e0 e1
  exact ⟨k0, k1, c2, rfl⟩
set_option maxRecDepth 100000 in
theorem open_resC {H : Type} {enc : TypeId × Value → H} {W : World} {cs : List Value} {x : DataW H × List MemPlace} {fuel : Nat} (hl : cs.length = 6) (hf : DataW.trod enc Try.prog W 0 (fun _ => true) true fuel 34 cs = some x) (hw : ∀ n ∈ x.1.weights Try.prog 34, n ≤ reachBytes) : ∃ (rwhy : Int) (rwait : Bool) (rrw rra : Int) (rrows : Value) (ea : Option Addr) (ec : Nat) (el : List (BitVec 8)), cs = [.int .i64 rwhy, .bool rwait, .int .i64 rrw, .int .i64 rra, rrows, .slice ea el.length ec] ∧ Seen W ea el.length el ∧ (ea = none → ec = 0) ∧ el.length ≤ 140737488351232 := by
  obtain ⟨c0, c1, c2, c3, c4, c5, rfl⟩ := listM6 hl
  obtain ⟨xs, n, _, hx, _, hlen, hfld⟩ := DataW.trod_struct Try.underlying34 hf
  obtain ⟨y0, y1, y2, y3, rfl⟩ := listM4 (hlen.trans (by rfl))
  have g0 := hfld 0 _ rfl
  have g1 := hfld 1 _ rfl
  have g2 := hfld 2 _ rfl
  have g3 := hfld 3 _ rfl
  simp [cellsM4, cellsME, cellsMRp, cellsMB] at g0 g1 g2 g3
  obtain ⟨k0, e0, _, _⟩ := DataW.trod_int Try.underlying24 g0
  obtain ⟨k1, e1, _⟩ := DataW.trod_bool Try.underlying4 g1
  obtain ⟨o0, o1, o2, e2⟩ := open_repC rfl g2
  have hdd : x.1 = _ := congrArg Prod.fst hx
  simp only [List.map_cons, List.map_nil] at hdd
  obtain ⟨dl, da, dc, e3, sd, nd, bd⟩ := open_bytesC g3 (fun n hn => hw n (by
    rw [hdd, DataW.weights, Try.underlying34]
    exact DataW.weights_mem_each (j := 3) (t := 25) (d := y3.1) rfl rfl n hn))
  simp only [List.cons.injEq, and_true] at e0 e1 e2
  obtain ⟨p0, p1, p2⟩ := e2
  subst e0 e1 p0 p1 p2 e3
  exact ⟨k0, k1, o0, o1, c4, da, dc, dl, rfl, sd, nd, bd⟩
set_option maxRecDepth 100000 in
/-- An ask that came in. -/
theorem open_askC {H : Type} {enc : TypeId × Value → H} {W : World} {cs : List Value} {x : DataW H × List MemPlace} {fuel : Nat} (hl : cs.length = 18) (hf : DataW.trod enc Try.prog W 0 (fun _ => true) true fuel 29 cs = some x) (hw : ∀ n ∈ x.1.weights Try.prog 29, n ≤ reachBytes) : ∃ (g k ok : Int) (of_ ot : ByteArray) (oa : Int) (oy : ByteArray) (os oh : Int) (id nm : ByteArray) (cn why slot cep at_ : Int) (last : Bool) (da : Option Addr) (dc : Nat) (dl : List (BitVec 8)), cs = [.int .i64 g, .int .i64 k, .int .i64 ok, .string of_, .string ot, .int .i64 oa, .string oy, .int .i64 os, .int .i64 oh, .string id, .string nm, .int .i64 cn, .int .i64 why, .int .i64 slot, .int .i64 cep, .int .i64 at_, .bool last, .slice da dl.length dc] ∧ Seen W da dl.length dl ∧ (da = none → dc = 0) ∧ dl.length ≤ 140737488351232 := by
  obtain ⟨c0, c1, c2, c3, c4, c5, c6, c7, c8, c9, c10, c11, c12, c13, c14, c15, c16, c17, rfl⟩ := listM18 hl
  obtain ⟨xs, n, _, hx, _, hlen, hfld⟩ := DataW.trod_struct Try.underlying29 hf
  obtain ⟨y0, y1, rfl⟩ := listM2 (hlen.trans (by rfl))
  have g0 := hfld 0 _ rfl
  have g1 := hfld 1 _ rfl
  simp [cellsM3, cellsMCm] at g0 g1
  obtain ⟨k0, e0, _, _⟩ := DataW.trod_int Try.underlying3 g0
  have hdd : x.1 = _ := congrArg Prod.fst hx
  simp only [List.map_cons, List.map_nil] at hdd
  obtain ⟨k, ok, of_, ot, oa, oy, os, oh, id, nm, cn, why, slot, cep, at_, last, da, dc, dl, e1, sd, nd, bd⟩ := open_cmdC rfl g1 (fun n hn => hw n (by
    rw [hdd, DataW.weights, Try.underlying29]
    exact DataW.weights_mem_each (j := 1) (t := 27) (d := y1.1) rfl rfl n hn))
  simp only [List.cons.injEq, and_true] at e0
  subst e0
  exact ⟨k0, k, ok, of_, ot, oa, oy, os, oh, id, nm, cn, why, slot, cep, at_, last, da, dc, dl, by rw [e1], sd, nd, bd⟩
end Go.Proofs.Ytogbcciocgpknaa
