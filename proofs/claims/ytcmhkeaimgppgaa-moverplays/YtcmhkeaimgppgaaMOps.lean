/- A list of calls that came in. -/
import Derived.Test.YtcmhkeaimgppgaaMFrame
import Derived.Test.YtcmhkeaimgppgaaGaB
import Derived.Test.YtcmhkeaimgppgaaMTold
namespace Go.Proofs.Ytcmhkeaimgppgaa
open Go.ChangeShapes Go.WideShapes Go.ChangeAt Go.RowKit Go.Deep Go.Joins
set_option linter.unusedVariables false
set_option linter.unusedSimpArgs false

/-- A call: which, its move, its ask, its result. -/
structure MopV where
  k : Int
  x : MvD
  g : Int
  kind : Int
  ok : Int
  of_ : ByteArray
  ot : ByteArray
  oa : Int
  oy : ByteArray
  os : Int
  oh : Int
  id : ByteArray
  nm : ByteArray
  cn : Int
  why : Int
  slot : Int
  ep : Int
  at_ : Int
  last : Bool
  da : Option Addr
  dc : Nat
  dl : List (BitVec 8)
  r : ResD
def MopV.ask (c : MopV) : List Value := [.int .i64 c.g, .int .i64 c.kind, .int .i64 c.ok, .string c.of_, .string c.ot, .int .i64 c.oa, .string c.oy, .int .i64 c.os, .int .i64 c.oh, .string c.id, .string c.nm, .int .i64 c.cn, .int .i64 c.why, .int .i64 c.slot, .int .i64 c.ep, .int .i64 c.at_, .bool c.last, .slice c.da c.dl.length c.dc]
def MopV.q (c : MopV) : AskI := ⟨c.g, c.kind, c.slot, c.ep, c.at_, c.last, c.da, c.dl.length, c.dc⟩
def MopV.cells (c : MopV) : List Value := [.int .i64 c.k, .int .i64 c.x.slot, .int .i64 c.x.fr, .int .i64 c.x.to, .int .i64 c.x.ep, .int .i64 c.x.ph, .int .i64 c.x.n, .int .i64 c.g, .int .i64 c.kind, .int .i64 c.ok, .string c.of_, .string c.ot, .int .i64 c.oa, .string c.oy, .int .i64 c.os, .int .i64 c.oh, .string c.id, .string c.nm, .int .i64 c.cn, .int .i64 c.why, .int .i64 c.slot, .int .i64 c.ep, .int .i64 c.at_, .bool c.last, .slice c.da c.dl.length c.dc, .int .i64 c.r.why, .bool c.r.wait, .int .i64 c.r.rw, .int .i64 c.r.ra, c.r.rows, .slice c.r.da c.r.l.length c.r.dc]
theorem MopV.cells31 (c : MopV) : c.cells.length = 31 := rfl
structure MopV.In (c : MopV) (w : World) : Prop where
  data : Seen w c.da c.dl.length c.dl
  nil : c.da = none → c.dc = 0
  len : c.dl.length ≤ 140737488351232
  res : ResIn w c.r
  one : c.r.rows.oneCell' = true
theorem MopV.In.below {c : MopV} {w w' : World} (h : c.In w) (b : Below w.heap.size w w') : c.In w' := ⟨h.data.below b, h.nil, h.len, h.res.below b, h.one⟩
theorem MopV.In.askC {c : MopV} {w : World} (h : c.In w) : AskC c.ask c.q := ⟨rfl, rfl, rfl, rfl, rfl, rfl, rfl, rfl, by have := h.len; show c.dl.length ≤ _; omega⟩
theorem MopV.ask_one (c : MopV) : (c.ask.drop 1).toArray.all (·.oneCell') = true := by simp [MopV.ask, Value.oneCell']
theorem cellsMop : Try.prog.cellsOf 44 = 31 := by kernel_rfl
theorem weights_inM {H : Type} {P : Program} {e : TypeId} {d : DataW H} {n : Nat} : ∀ {l : List (DataW H)}, d ∈ l → n ∈ d.weights P e → n ∈ DataW.weightsAll P e l
  | x :: l, h, hn => by
    rw [DataW.weightsAll]
    rcases List.mem_cons.1 h with rfl | h
    · exact List.mem_append.2 (.inl hn)
    · exact List.mem_append.2 (.inr (weights_inM h hn))
def MopsAt (w : World) (a : Option Addr) (n : Nat) (l : List MopV) : Prop := RecsAt MopV.cells 31 w a n l ∧ ∀ c ∈ l, c.In w
theorem row_one {H : Type} {enc : TypeId × Value → H} {W : World} {v : Value} {x : DataW H × List MemPlace} {fuel : Nat} (hf : DataW.trod enc Try.prog W 0 (fun _ => true) true fuel 38 [v] = some x) : v.oneCell' = true := by
  rcases open_slice Try.underlying38 hf with ⟨hcs, _⟩ | ⟨_, _, _, _, _, _, _, hcs, _⟩
  · obtain rfl : v = _ := by simpa using hcs
    rfl
  · obtain rfl : v = _ := by simpa using hcs
    rfl
set_option maxRecDepth 100000 in
theorem rep_one {H : Type} {enc : TypeId × Value → H} {W : World} {c0 c1 c2 : Value} {x : DataW H × List MemPlace} {fuel : Nat} (hf : DataW.trod enc Try.prog W 0 (fun _ => true) true fuel 40 [c0, c1, c2] = some x) : c2.oneCell' = true := by
  obtain ⟨xs, n, _, hx, _, hlen, hfld⟩ := DataW.trod_struct Try.underlying40 hf
  obtain ⟨y0, y1, y2, rfl⟩ := listM3 (hlen.trans (by rfl))
  have g2 := hfld 2 _ rfl
  simp [cellsM2, cellsME, cellsMRw] at g2
  exact row_one g2
set_option maxRecDepth 100000 in
theorem res_one {H : Type} {enc : TypeId × Value → H} {W : World} {c0 c1 c2 c3 c4 c5 : Value} {x : DataW H × List MemPlace} {fuel : Nat} (hf : DataW.trod enc Try.prog W 0 (fun _ => true) true fuel 42 [c0, c1, c2, c3, c4, c5] = some x) : c4.oneCell' = true := by
  obtain ⟨xs, n, _, hx, _, hlen, hfld⟩ := DataW.trod_struct Try.underlying42 hf
  obtain ⟨y0, y1, y2, y3, rfl⟩ := listM4 (hlen.trans (by rfl))
  have g2 := hfld 2 _ rfl
  simp [cellsM4, cellsME, cellsMRp, cellsMB] at g2
  exact rep_one g2
set_option maxRecDepth 100000 in
theorem mop_one {H : Type} {enc : TypeId × Value → H} {W : World} {c0 c1 c2 c3 c4 c5 c6 c7 c8 c9 c10 c11 c12 c13 c14 c15 c16 c17 c18 c19 c20 c21 c22 c23 c24 c25 c26 c27 c28 c29 c30 : Value} {x : DataW H × List MemPlace} {fuel : Nat} (hf : DataW.trod enc Try.prog W 0 (fun _ => true) true fuel 44 [c0, c1, c2, c3, c4, c5, c6, c7, c8, c9, c10, c11, c12, c13, c14, c15, c16, c17, c18, c19, c20, c21, c22, c23, c24, c25, c26, c27, c28, c29, c30] = some x) : c29.oneCell' = true := by
  obtain ⟨xs, n, _, hx, _, hlen, hfld⟩ := DataW.trod_struct Try.underlying44 hf
  obtain ⟨y0, y1, y2, y3, rfl⟩ := listM4 (hlen.trans (by rfl))
  have g3 := hfld 3 _ rfl
  simp [cellsM3, cellsMM, cellsMA, cellsMRs] at g3
  exact res_one g3
set_option maxRecDepth 100000 in
theorem open_mops {H : Type} {enc : TypeId × Value → H} {W : World} {v : Value} {d : DataW H} {p : List MemPlace} {base : Nat} (hv : Value.okWide Try.prog W .any base 22 v) (h : DataW.Trod enc Try.prog W 0 (fun _ => true) true 22 v d p)
    {ts : List TypeId} {ds : List (DataW H)} (hsz : (DataW.weightsEach Try.prog ts ds).all (· ≤ reachBytes) = true) (j : Nat) (htj : ts[j]? = some 22) (hdj : ds[j]? = some d) :
    ∃ (a : Option Addr) (len cap : Nat) (l : List MopV), v = .slice a len cap ∧ MopsAt W a len l ∧ len ≤ maxLen := by
  obtain ⟨a, len, cap, rfl⟩ := okWide_slice Try.underlying22 hv
  obtain ⟨fuel, hf⟩ := h
  rcases open_slice Try.underlying22 hf with ⟨hcs, _⟩ | ⟨x, ln, c, m, n, D, Pl, hcs, _, hl, hm, hmm, hx, hcell⟩
  · simp [Value.cells] at hcs
    obtain ⟨rfl, rfl, rfl⟩ := hcs
    exact ⟨none, 0, 0, [], rfl, ⟨⟨rfl, .inl rfl⟩, fun o ho => by cases ho⟩, Nat.zero_le _⟩
  · simp [Value.cells] at hcs
    obtain ⟨rfl, rfl, rfl⟩ := hcs
    have hlm : len ≤ m := by rw [hmm]; simpa using hl
    rw [cellsMop] at hcell
    have each2 : ∀ i : Nat, ∃ t : MopV, i < len → t.In W ∧ W.cells? 0 (x.add (i * 31)) 31 = some t.cells := fun i => by
      by_cases hi : i < len
      · obtain ⟨cs, h1, h2⟩ := hcell i (by omega)
        obtain ⟨_, hlen, _⟩ := World.cells?_some h1
        obtain ⟨K, sl, fr, to, ep, ph, n', g, k, ok, of_, ot, oa, oy, os, oh, id, nm, cn, why, slot, cep, at_, last, da, dc, dl, rwhy, rwait, rrw, rra, rrows, ea, ec, el, e, s2, s3⟩ := open_mopC hlen h2 (fun g' hg => by
          have hd := congrArg Prod.fst hx
          simp only at hd
          have := List.all_eq_true.1 hsz g' (DataW.weights_mem_each htj hdj g' (by
            rw [hd, DataW.weights, Try.underlying22]
            refine List.mem_cons.2 (.inr (List.mem_append.2 (.inl (weights_inM ?_ hg))))
            exact List.mem_map.2 ⟨i, List.mem_range.2 hi, rfl⟩))
          simpa using this)
        rw [e] at h1 h2
        exact ⟨⟨K, ⟨sl, fr, to, ep, ph, n'⟩, g, k, ok, of_, ot, oa, oy, os, oh, id, nm, cn, why, slot, cep, at_, last, da, dc, dl, ⟨rwhy, rwait, rrw, rra, rrows, ea, ec, el⟩⟩, fun _ => ⟨⟨s2.1, s2.2.1, s2.2.2, ⟨s3.1, s3.2.1, s3.2.2⟩, mop_one h2⟩, h1⟩⟩
      · exact ⟨⟨0, ⟨0, 0, 0, 0, 0, 0⟩, 0, 0, 0, ⟨#[]⟩, ⟨#[]⟩, 0, ⟨#[]⟩, 0, 0, ⟨#[]⟩, ⟨#[]⟩, 0, 0, 0, 0, 0, false, none, 0, [], ⟨0, false, 0, 0, .bool false, none, 0, []⟩⟩, fun h => absurd h hi⟩
    obtain ⟨f, hfn⟩ : ∃ f : Nat → MopV, ∀ i, i < len → (f i).In W ∧ W.cells? 0 (x.add (i * 31)) 31 = some (f i).cells := ⟨fun i => Classical.choose (each2 i), fun i => Classical.choose_spec (each2 i)⟩
    refine ⟨some x, len, cap, (List.range len).map f, rfl, ⟨⟨by simp, ?_⟩, fun o ho => ?_⟩, by omega⟩
    · by_cases h0 : len = 0
      · exact .inl h0
      · have cellsAt : ∀ i, i < len → ∀ j v, (f i).cells[j]? = some v → W.cell? ((x.add (i * 31)).add j) = some v := fun i hi j v hv => by
          obtain ⟨_, _, hc⟩ := World.cells?_some (hfn i hi).2
          have hj : j < 31 := by have := (List.getElem?_eq_some_iff.1 hv).1; rwa [MopV.cells31] at this
          have := hc j hj
          rw [← hv]
          simpa using this
        obtain ⟨b, off, spot⟩ := x
        have hc0 := cellsAt 0 (by omega) 0 _ rfl
        have hspot : spot = none := by simpa [Addr.add] using World.cell?_spot hc0
        subst hspot
        refine .inr ⟨b, off, rfl, ?_, fun i hi j v hv => ?_⟩
        · have := World.block_lt_of_cell? W _ hc0
          rw [Addr.add_lit, Addr.add_lit] at this
          exact this
        have hi1 : i < len := by simpa using hi
        simp only [List.getElem_map, List.getElem_range] at hv
        have := cellsAt i hi1 j v hv
        rw [Addr.add_lit, Addr.add_lit] at this
        exact this
    · obtain ⟨i, hi, rfl⟩ := List.mem_map.1 ho
      exact (hfn i (List.mem_range.1 hi)).1
end Go.Proofs.Ytcmhkeaimgppgaa
