/- A script of a desk that came in, opened. -/
import Derived.Test.YtaakdnbaljoehaaKFrame
import Derived.Test.YtaakdnbaljoehaaKDesk
namespace Go.Proofs.Ytaakdnbaljoehaa
open Go.ChangeShapes Go.WideShapes Go.ChangeAt Go.RowKit Go.Deep Go.Joins
set_option linter.unusedVariables false

/-- One act of a script, and where its answer's rows lie. -/
structure ActV where
  kind : Int
  n : Int
  op : OpD
  why : Int
  amount : Int
  rows : List (ByteArray × Int)
  ra : Option Addr
  rc : Nat
def ActV.cells (c : ActV) : List Value := [.int .i64 c.kind, .int .i64 c.n, .int .i64 c.op.kind, .string c.op.src, .string c.op.dst, .int .i64 c.op.amount, .string c.op.key, .int .i64 c.op.slot, .int .i64 c.op.shard, .int .i64 c.why, .int .i64 c.amount, .slice c.ra c.rows.length c.rc]
theorem ActV.cells12 (c : ActV) : c.cells.length = 12 := rfl
structure ActV.In (c : ActV) (w : World) : Prop where
  kind : i64ok c.kind
  n : i64ok c.n
  op : c.op.ok
  why : i64ok c.why
  amount : i64ok c.amount
  rows : RowsAt w c.ra c.rows.length c.rows
  nums : ∀ r ∈ c.rows, i64ok r.2
  nil : c.ra = none → c.rc = 0
  few : c.rows.length * 24 ≤ 140737488355328
theorem ActV.In.below {c : ActV} {w w' : World} (h : c.In w) (b : Below w.heap.size w w') : c.In w' := ⟨h.kind, h.n, h.op, h.why, h.amount, h.rows.below b, h.nums, h.nil, h.few⟩
theorem listK12 {α : Type} {l : List α} (h : l.length = 12) : ∃ c0 c1 c2 c3 c4 c5 c6 c7 c8 c9 c10 c11, l = [c0, c1, c2, c3, c4, c5, c6, c7, c8, c9, c10, c11] := by
  match l, h with
  | [c0, c1, c2, c3, c4, c5, c6, c7, c8, c9, c10, c11], _ => exact ⟨c0, c1, c2, c3, c4, c5, c6, c7, c8, c9, c10, c11, rfl⟩
theorem listK4 {α : Type} {l : List α} (h : l.length = 4) : ∃ c0 c1 c2 c3, l = [c0, c1, c2, c3] := by
  match l, h with
  | [c0, c1, c2, c3], _ => exact ⟨c0, c1, c2, c3, rfl⟩
theorem cellsAct : Try.prog.cellsOf 57 = 12 := by kernel_rfl
set_option maxRecDepth 100000 in
theorem open_actC {H : Type} {enc : TypeId × Value → H} {W : World} {cs : List Value} {x : DataW H × List MemPlace} {fuel : Nat} (hl : cs.length = 12) (hf : DataW.trod enc Try.prog W 0 (fun _ => true) true fuel 57 cs = some x) (hw : ∀ n ∈ x.1.weights Try.prog 57, n ≤ reachBytes) :
    ∃ c : ActV, cs = c.cells ∧ c.In W := by
  obtain ⟨c0, c1, c2, c3, c4, c5, c6, c7, c8, c9, c10, c11, rfl⟩ := listK12 hl
  obtain ⟨xs, n, _, hx, _, hlen, hfld⟩ := DataW.trod_struct Try.underlying57 hf
  obtain ⟨y0, y1, y2, y3, rfl⟩ := listK4 (hlen.trans (by rfl))
  have g0 := hfld 0 _ rfl
  have g1 := hfld 1 _ rfl
  have g2 := hfld 2 _ rfl
  have g3 := hfld 3 _ rfl
  simp [cellsM3, cellsMAO, cellsMRp] at g0 g1 g2 g3
  obtain ⟨k0, e0, _, w0⟩ := DataW.trod_int Try.underlying3 g0
  obtain ⟨k1, e1, _, w1⟩ := DataW.trod_int Try.underlying3 g1
  obtain ⟨o, oo, e2⟩ := open_opD rfl g2
  have hdd : x.1 = _ := congrArg Prod.fst hx
  simp only [List.map_cons, List.map_nil] at hdd
  obtain ⟨why, amount, ra, rc, rows, e3, r1, r2, r3, r4, r5, r6⟩ := open_repD rfl g3 (fun n hn => hw n (by
    rw [hdd, DataW.weights, Try.underlying57]
    exact DataW.weights_mem_each (j := 3) (t := 28) (d := y3.1) rfl rfl n hn))
  simp only [List.cons.injEq, and_true] at e0 e1 e2 e3
  refine ⟨⟨k0, k1, o, why, amount, rows, ra, rc⟩, ?_, ⟨i64_wfK w0, i64_wfK w1, oo, r1, r2, r3, r4, r5, r6⟩⟩
  rw [e0, e1, e2.1, e2.2.1, e2.2.2.1, e2.2.2.2.1, e2.2.2.2.2.1, e2.2.2.2.2.2.1, e2.2.2.2.2.2.2, e3.1, e3.2.1, e3.2.2]
  rfl
theorem weights_inK {H : Type} {P : Program} {e : TypeId} {d : DataW H} {n : Nat} : ∀ {l : List (DataW H)}, d ∈ l → n ∈ d.weights P e → n ∈ DataW.weightsAll P e l
  | x :: l, h, hn => by
    rw [DataW.weightsAll]
    rcases List.mem_cons.1 h with rfl | h
    · exact List.mem_append.2 (.inl hn)
    · exact List.mem_append.2 (.inr (weights_inK h hn))
/-- A script in memory. -/
def ActsAt (w : World) (a : Option Addr) (n : Nat) (l : List ActV) : Prop := RecsAt ActV.cells 12 w a n l ∧ ∀ c ∈ l, c.In w
set_option maxRecDepth 100000 in
theorem open_acts {H : Type} {enc : TypeId × Value → H} {W : World} {v : Value} {d : DataW H} {p : List MemPlace} {base : Nat} (hv : Value.okWide Try.prog W .any base 50 v) (h : DataW.Trod enc Try.prog W 0 (fun _ => true) true 50 v d p)
    {ts : List TypeId} {ds : List (DataW H)} (hsz : (DataW.weightsEach Try.prog ts ds).all (· ≤ reachBytes) = true) (j : Nat) (htj : ts[j]? = some 50) (hdj : ds[j]? = some d) :
    ∃ (a : Option Addr) (len cap : Nat) (l : List ActV), v = .slice a len cap ∧ ActsAt W a len l ∧ len ≤ maxLen := by
  obtain ⟨a, len, cap, rfl⟩ := okWide_slice Try.underlying50 hv
  obtain ⟨fuel, hf⟩ := h
  rcases open_slice Try.underlying50 hf with ⟨hcs, _⟩ | ⟨x, ln, c, m, n, D, Pl, hcs, _, hl, hm, hmm, hx, hcell⟩
  · simp [Value.cells] at hcs
    obtain ⟨rfl, rfl, rfl⟩ := hcs
    exact ⟨none, 0, 0, [], rfl, ⟨⟨rfl, .inl rfl⟩, fun o ho => by cases ho⟩, Nat.zero_le _⟩
  · simp [Value.cells] at hcs
    obtain ⟨rfl, rfl, rfl⟩ := hcs
    have hlm : len ≤ m := by rw [hmm]; simpa using hl
    rw [cellsAct] at hcell
    have each2 : ∀ i : Nat, ∃ t : ActV, i < len → t.In W ∧ W.cells? 0 (x.add (i * 12)) 12 = some t.cells := fun i => by
      by_cases hi : i < len
      · obtain ⟨cs, h1, h2⟩ := hcell i (by omega)
        obtain ⟨_, hlen, _⟩ := World.cells?_some h1
        obtain ⟨o, e, ho⟩ := open_actC hlen h2 (fun g hg => by
          have hd := congrArg Prod.fst hx
          simp only at hd
          have := List.all_eq_true.1 hsz g (DataW.weights_mem_each htj hdj g (by
            rw [hd, DataW.weights, Try.underlying50]
            refine List.mem_cons.2 (.inr (List.mem_append.2 (.inl (weights_inK ?_ hg))))
            exact List.mem_map.2 ⟨i, List.mem_range.2 hi, rfl⟩))
          simpa using this)
        rw [e] at h1
        exact ⟨o, fun _ => ⟨ho, h1⟩⟩
      · exact ⟨⟨0, 0, ⟨0, ⟨#[]⟩, ⟨#[]⟩, 0, ⟨#[]⟩, 0, 0⟩, 0, 0, [], none, 0⟩, fun h => absurd h hi⟩
    obtain ⟨f, hfn⟩ : ∃ f : Nat → ActV, ∀ i, i < len → (f i).In W ∧ W.cells? 0 (x.add (i * 12)) 12 = some (f i).cells := ⟨fun i => Classical.choose (each2 i), fun i => Classical.choose_spec (each2 i)⟩
    refine ⟨some x, len, cap, (List.range len).map f, rfl, ⟨⟨by simp, ?_⟩, fun o ho => ?_⟩, by omega⟩
    · by_cases h0 : len = 0
      · exact .inl h0
      · have cellsAt : ∀ i, i < len → ∀ j v, (f i).cells[j]? = some v → W.cell? ((x.add (i * 12)).add j) = some v := fun i hi j v hv => by
          obtain ⟨_, _, hc⟩ := World.cells?_some (hfn i hi).2
          have hj : j < 12 := by have := (List.getElem?_eq_some_iff.1 hv).1; rwa [ActV.cells12] at this
          have := hc j hj
          rw [← hv]
          simpa using this
        obtain ⟨b, off, spot⟩ := x
        have hc0 := cellsAt 0 (by omega) 0 _ rfl
        have hspot : spot = none := by simpa [Addr.add] using World.cell?_spot hc0
        subst hspot
        refine .inr ⟨b, off, rfl, ?_, fun i hi j v hv => ?_⟩
        · have := World.block_lt_of_cell? W _ hc0
          rw [Addr.add_lit, Addr.add_lit] at this
          exact this
        have hi1 : i < len := by simpa using hi
        simp only [List.getElem_map, List.getElem_range] at hv
        have := cellsAt i hi1 j v hv
        rw [Addr.add_lit, Addr.add_lit] at this
        exact this
    · obtain ⟨i, hi, rfl⟩ := List.mem_map.1 ho
      exact (hfn i (List.mem_range.1 hi)).1
end Go.Proofs.Ytaakdnbaljoehaa
